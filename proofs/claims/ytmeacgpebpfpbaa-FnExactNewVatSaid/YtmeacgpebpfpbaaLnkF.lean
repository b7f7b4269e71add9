/- Chapter 10: searches, both sides. -/
import Derived.Test.YtmeacgpebpfpbaaCom
import Derived.Test.YtmeacgpebpfpbaaLnkV
import Derived.LoopTactic
import Derived.Lib.Hide
import Derived.Deep.QuietTactic
import Derived.BigQuiet
import Derived.Deep.RegionWith
import Derived.Handy
namespace Go.Proofs.Ytmeacgpebpfpbaa
open Go.RowKit
set_option linter.unusedVariables false
set_option linter.unusedSimpArgs false
def look (p : Dat → Bool) (k : Nat) (z : Int) : List Dat → Int
  | [] => z
  | d :: L => if p d then fld k d else look p k z L
theorem look_at {p : Dat → Bool} {k : Nat} {z : Int} : ∀ {L : List Dat} {i : Nat} {d : Dat}, (∀ (j : Nat) (e : Dat), j < i → L[j]? = some e → p e = false) → L[i]? = some d → p d = true → look p k z L = fld k d
  | [], _, _, _, h, _ => by simp at h
  | x :: L, 0, d, _, h, hn => by
    obtain rfl : x = d := by simpa using h
    rw [look, if_pos hn]
  | x :: L, i + 1, d, h0, h, hn => by
    rw [look, if_neg (by rw [h0 0 x (by omega) rfl]; simp), look_at (i := i) (fun j e hj he => h0 (j + 1) e (by omega) (by simpa using he)) (by simpa using h) hn]
theorem look_none {p : Dat → Bool} {k : Nat} {z : Int} : ∀ {L : List Dat}, (∀ x ∈ L, p x = false) → look p k z L = z
  | [], _ => rfl
  | x :: L, h0 => by rw [look, if_neg (by rw [h0 x List.mem_cons_self]; simp), look_none (fun y hy => h0 y (List.mem_cons_of_mem _ hy))]
set_option maxHeartbeats 1000000 in
theorem implAtEnt (a b c x : Int) (g : Nat) (w : World) (h1 : Box g [.int .i64 x] w) :
    Calls Try.prog 178 #[.agg #[.int .i64 a, .int .i64 b, .int .i64 c], .pointer (some ⟨g, 0, none⟩)] w (GivesBool (isF 1 x (.r [.i a, .i b, .i c])) w) := by
  have B0 : Hid (Below w.heap.size w (w.alloc (.cells #[.int .i64 a, .int .i64 b, .int .i64 c] 174))) := Lib.hid ((Below.refl _ _).alloc (Nat.le_refl _) _)
  have c0 := (h1.below B0.out).2 0 _ rfl
  clear h1
  by_cases e : b = x
  · have HE : Hid (true = isF 1 x (.r [.i a, .i b, .i c])) := Lib.hid (isF_t (k := 1) (d := .r [.i a, .i b, .i c]) e).symm
    have hb : (b == x) = true := by simpa using e
    clear e
    go_enter Try.func178, Try.ntmps178
    go_wp2_with fail
    go_ret
    exact GivesBool.of HE.out B0.out
  · have HE : Hid (false = isF 1 x (.r [.i a, .i b, .i c])) := Lib.hid (isF_f (k := 1) (d := .r [.i a, .i b, .i c]) e).symm
    have hb : (b == x) = false := by simpa using e
    clear e
    go_enter Try.func178, Try.ntmps178
    go_wp2_with fail
    go_ret
    exact GivesBool.of HE.out B0.out
set_option maxHeartbeats 2000000 in
theorem idxEnt (L : List Dat) (A : Option Addr) (n c : Nat) (x : Int) (g : Nat) (w : World) (h : Lies w (.l L) [.slice A n c]) (ht : ∀ x ∈ L, Has tyExport x) (hn : n ≤ 1099511627776) (h1 : Box g [.int .i64 x] w) :
    Calls Try.prog 177 #[.slice A n c, .func (.func 178) #[] #[.pointer (some ⟨g, 0, none⟩)]] w (GivesInt (idx (isF 1 x) L) w) := by
  have H := Lib.hid h
  have HT := Lib.hid ht
  have H1 := Lib.hid h1
  clear h ht h1
  go_enter Try.func177, Try.ntmps177
  go_wp2
  go_loopw [8] (fun iv wr => ∃ i : Nat, i ≤ n ∧ iv = .int .i64 i ∧ (∀ (j : Nat) (e : Dat), j < i → L[j]? = some e → isF 1 x e = false) ∧ Below w.heap.size w wr) (fun iv _ => n - (intOf iv).toNat)
  case atStart => exact ⟨0, Nat.zero_le _, rfl, fun j e hj => by omega, Below.refl _ _⟩
  case round =>
    obtain ⟨i, hin, rfl, hno, hb0⟩ := hrel
    have HNO := Lib.hid hno
    have HB := Lib.hid hb0
    clear hno hb0
    by_cases hlt : i < n
    · obtain ⟨b, off, d, xs, rfl, hbw, hzi, hlie, hlen, hcell⟩ := (H.out.below HB.out).elem (fun x hx => (HT.out x hx).width) hlt
      obtain ⟨f0, f1, f2, hd, rfl⟩ := invExport (HT.out d (List.mem_of_getElem? hzi)) hlie
      have r0 : wr.cell? ⟨b, off + i * 3, none⟩ = some (.int .i64 f0) := hcell 0 _ rfl
      have r1 : wr.cell? ⟨b, off + i * 3 + 1, none⟩ = some (.int .i64 f1) := hcell 1 _ rfl
      have r2 : wr.cell? ⟨b, off + i * 3 + 2, none⟩ = some (.int .i64 f2) := hcell 2 _ rfl
      have HZ := Lib.hid hzi
      have HD := Lib.hid hd
      clear hzi hcell hlie hd
      obtain ⟨v, hv⟩ : ∃ v, isF 1 x (.r [.i f0, .i f1, .i f2]) = v := ⟨_, rfl⟩
      have HV : Hid (isF 1 x d = v) := Lib.hid (by rw [HD.out, hv])
      have HV2 := Lib.hid hv
      clear hv
      cases v with
      | true =>
        have HN := Lib.hid (idx_at HNO.out HZ.out HV.out)
        go_wp2_with fail
        refine (implAtEnt f0 f1 f2 x g _ (H1.out.below HB.out)).mono ?_
        rintro e w2 ⟨rfl, hb⟩
        rw [HV2.out]
        have HB2 := Lib.hid (HB.out.trans (hb.mono HB.out.size))
        clear hb
        go_wp2_with fail
        go_ret
        exact GivesInt.ret HN.out HB2.out
      | false =>
        have HN := Lib.hid (no_next HNO.out HZ.out HV.out)
        go_wp2_with fail
        refine (implAtEnt f0 f1 f2 x g _ (H1.out.below HB.out)).mono ?_
        rintro e w2 ⟨rfl, hb⟩
        rw [HV2.out]
        have HB2 := Lib.hid (HB.out.trans (hb.mono HB.out.size))
        clear hb
        go_wp2_with fail
        go_roundw
        case rel => exact ⟨i + 1, by omega, by go_num, HN.out, HB2.out⟩
        case measure => (simp [intOf]; try omega)
    · obtain rfl : i = n := by omega
      have HN := Lib.hid (idx_none (fun j e hje => HNO.out j e (by rw [← H.out.count]; exact (List.getElem?_eq_some_iff.1 hje).1) hje))
      go_wp2_with fail
      go_ret
      exact GivesInt.ret HN.out HB.out
set_option maxHeartbeats 1000000 in
theorem implPlE (L : List Dat) (A : Option Addr) (n c : Nat) (x : Int) (w : World) (h : Lies w (.l L) [.slice A n c]) (ht : ∀ x ∈ L, Has tyExport x) (hn : n ≤ 1099511627776) :
    Calls Try.prog 163 #[.slice A n c, .int .i64 x] w (GivesInt (idx (isF 1 x) L) w) := by
  have B0 : Hid (Below w.heap.size w (w.alloc (.cells #[.int .i64 x] 3))) := Lib.hid ((Below.refl _ _).alloc (Nat.le_refl _) _)
  have HL := Lib.hid (h.below B0.out)
  have X := Lib.hid (Box.new w #[.int .i64 x] 3)
  clear h
  go_enter Try.func163, Try.ntmps163
  go_wp2_with fail
  refine (idxEnt L A n c x _ _ HL.out ht hn X.out).mono ?_
  rintro e w1 ⟨rfl, hb⟩
  have HB := Lib.hid (B0.out.trans (hb.mono B0.out.size))
  clear hb
  go_wp2_with fail
  go_ret
  exact GivesInt.ret rfl HB.out
end Go.Proofs.Ytmeacgpebpfpbaa
