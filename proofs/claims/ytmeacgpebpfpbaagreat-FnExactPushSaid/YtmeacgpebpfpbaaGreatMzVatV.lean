/- Chapter 12: vats. Chapter 12: LinkTo, IsUp, the program's. -/
import Derived.Test.YtmeacgpebpfpbaaGreatCom
import Derived.Test.YtmeacgpebpfpbaaGreatTyV0
import Derived.LoopTactic
import Derived.Lib.Hide
import Derived.Deep.QuietTactic
import Derived.BigQuiet
import Derived.Deep.RegionWith
import Derived.Handy
section
namespace Go.Proofs.YtmeacgpebpfpbaaGreat
open Go.RowKit
set_option linter.unusedVariables false
set_option linter.unusedSimpArgs false
def peerIs (x : Int) : Dat → Bool
  | .r (.i p :: _) => p == x
  | _ => false
def upIs (x : Int) : Dat → Bool
  | .r (.i p :: .b u :: _) => p == x && u
  | _ => false
theorem any_at {p : Dat → Bool} {L : List Dat} {i : Nat} {d : Dat} (hd : L[i]? = some d) (hp : p d = true) : true = L.any p := by
  symm; rw [List.any_eq_true]; exact ⟨d, List.mem_of_getElem? hd, hp⟩
theorem any_no {p : Dat → Bool} {L : List Dat} {n : Nat} (hn : L.length = n) (h : ∀ (j : Nat) (e : Dat), j < n → L[j]? = some e → p e = false) : false = L.any p := by
  symm; rw [List.any_eq_false]; intro d hd
  obtain ⟨j, hj, rfl⟩ := List.getElem_of_mem hd
  rw [h j _ (by omega) (List.getElem?_eq_getElem hj)]; simp
end Go.Proofs.YtmeacgpebpfpbaaGreat
end
section
namespace Go.Proofs.YtmeacgpebpfpbaaGreat
open Go.RowKit
set_option linter.unusedVariables false
set_option linter.unusedSimpArgs false
set_option maxHeartbeats 1000000 in
theorem implAtUp (g0 : Int) (g1 : Bool) (M2 : List Dat) (D2 : Option Addr) (m2 j2 : Nat) (g3 : Int) (M4 : List Dat) (D4 : Option Addr) (m4 j4 : Nat) (g5 : Int) (M6 : List Dat) (D6 : Option Addr) (m6 j6 : Nat) (x : Int) (g : Nat) (w : World) (h1 : Box g [.int .i64 x] w) :
    Calls Tryz.prog 69 #[.agg #[.int .i64 g0, .bool g1, .slice D2 m2 j2, .int .i64 g3, .slice D4 m4 j4, .int .i64 g5, .slice D6 m6 j6], .pointer (some ⟨g, 0, none⟩)] w (GivesBool (upIs x (.r [.i g0, .b g1, .l M2, .i g3, .l M4, .i g5, .l M6])) w) := by
  have B0 : Hid (Below w.heap.size w (w.alloc (.cells #[.int .i64 g0, .bool g1, .slice D2 m2 j2, .int .i64 g3, .slice D4 m4 j4, .int .i64 g5, .slice D6 m6 j6] 112))) := Lib.hid ((Below.refl _ _).alloc (Nat.le_refl _) _)
  have c0 := (h1.below B0.out).2 0 _ rfl
  clear h1
  by_cases e : g0 = x
  · have hb : (g0 == x) = true := by simpa using e
    cases g1 with
    | true =>
      have HE : Hid (true = upIs x (.r [.i g0, .b true, .l M2, .i g3, .l M4, .i g5, .l M6])) := Lib.hid (by simp [peerIs, upIs, e])
      clear e
      go_enter Tryz.func69, Tryz.ntmps69
      go_wp2_with fail
      go_ret
      exact GivesBool.of HE.out B0.out
    | false =>
      have HE : Hid (false = upIs x (.r [.i g0, .b false, .l M2, .i g3, .l M4, .i g5, .l M6])) := Lib.hid (by simp [peerIs, upIs, e])
      clear e
      go_enter Tryz.func69, Tryz.ntmps69
      go_wp2_with fail
      go_ret
      exact GivesBool.of HE.out B0.out
  · have hb : (g0 == x) = false := by simpa using e
    have HE : Hid (false = upIs x (.r [.i g0, .b g1, .l M2, .i g3, .l M4, .i g5, .l M6])) := Lib.hid (by simp [peerIs, upIs, e])
    clear e
    go_enter Tryz.func69, Tryz.ntmps69
    go_wp2_with fail
    go_ret
    exact GivesBool.of HE.out B0.out
set_option maxHeartbeats 2000000 in
theorem idxUp (L : List Dat) (A : Option Addr) (n c : Nat) (x : Int) (g : Nat) (w : World) (h : Lies w (.l L) [.slice A n c]) (ht : ∀ x ∈ L, Has tyLink x) (hn : n ≤ 1099511627776) (h1 : Box g [.int .i64 x] w) :
    Calls Tryz.prog 93 #[.slice A n c, .func (.func 69) #[] #[.pointer (some ⟨g, 0, none⟩)]] w (GivesInt (idx (upIs x) L) w) := by
  have H := Lib.hid h
  have HT := Lib.hid ht
  have H1 := Lib.hid h1
  clear h ht h1
  go_enter Tryz.func93, Tryz.ntmps93
  go_wp2
  go_loopw [8] (fun iv wr => ∃ i : Nat, i ≤ n ∧ iv = .int .i64 i ∧ (∀ (j : Nat) (e : Dat), j < i → L[j]? = some e → upIs x e = false) ∧ Below w.heap.size w wr) (fun iv _ => n - (intOf iv).toNat)
  case atStart => exact ⟨0, Nat.zero_le _, rfl, fun j e hj => by omega, Below.refl _ _⟩
  case round =>
    obtain ⟨i, hin, rfl, hno, hb0⟩ := hrel
    have HNO := Lib.hid hno
    have HB := Lib.hid hb0
    clear hno hb0
    by_cases hlt : i < n
    · obtain ⟨b, off, d, xs, rfl, hbw, hzi, hlie, hlen, hcell⟩ := (H.out.below HB.out).elem (fun x hx => (HT.out x hx).width) hlt
      obtain ⟨g0, g1, M2, D2, m2, j2, g3, M4, D4, m4, j4, g5, M6, D6, m6, j6, hd, rfl, -, -, -, -, -, -, -, -, -⟩ := invLink (HT.out d (List.mem_of_getElem? hzi)) hlie
      have r0 : wr.cell? ⟨b, off + i * 7, none⟩ = some (.int .i64 g0) := hcell 0 _ rfl
      have r1 : wr.cell? ⟨b, off + i * 7 + 1, none⟩ = some (.bool g1) := hcell 1 _ rfl
      have r2 : wr.cell? ⟨b, off + i * 7 + 2, none⟩ = some (.slice D2 m2 j2) := hcell 2 _ rfl
      have r3 : wr.cell? ⟨b, off + i * 7 + 3, none⟩ = some (.int .i64 g3) := hcell 3 _ rfl
      have r4 : wr.cell? ⟨b, off + i * 7 + 4, none⟩ = some (.slice D4 m4 j4) := hcell 4 _ rfl
      have r5 : wr.cell? ⟨b, off + i * 7 + 5, none⟩ = some (.int .i64 g5) := hcell 5 _ rfl
      have r6 : wr.cell? ⟨b, off + i * 7 + 6, none⟩ = some (.slice D6 m6 j6) := hcell 6 _ rfl
      have HZ := Lib.hid hzi
      have HD := Lib.hid hd
      clear hzi hcell hlie hd
      obtain ⟨v, hv⟩ : ∃ v, upIs x (.r [.i g0, .b g1, .l M2, .i g3, .l M4, .i g5, .l M6]) = v := ⟨_, rfl⟩
      have HV : Hid (upIs x d = v) := Lib.hid (by rw [HD.out, hv])
      have HV2 := Lib.hid hv
      clear hv
      cases v with
      | true =>
        have HN := Lib.hid (idx_at HNO.out HZ.out HV.out)
        go_wp2_with fail
        refine (implAtUp g0 g1 M2 D2 m2 j2 g3 M4 D4 m4 j4 g5 M6 D6 m6 j6 x g _ (H1.out.below HB.out)).mono ?_
        rintro e w2 ⟨rfl, hb⟩
        rw [HV2.out]
        have HB2 := Lib.hid (HB.out.trans (hb.mono HB.out.size))
        clear hb
        go_wp2_with fail
        go_ret
        exact GivesInt.ret HN.out HB2.out
      | false =>
        have HN := Lib.hid (no_next HNO.out HZ.out HV.out)
        go_wp2_with fail
        refine (implAtUp g0 g1 M2 D2 m2 j2 g3 M4 D4 m4 j4 g5 M6 D6 m6 j6 x g _ (H1.out.below HB.out)).mono ?_
        rintro e w2 ⟨rfl, hb⟩
        rw [HV2.out]
        have HB2 := Lib.hid (HB.out.trans (hb.mono HB.out.size))
        clear hb
        go_wp2_with fail
        go_roundw
        case rel => exact ⟨i + 1, by omega, by go_num, HN.out, HB2.out⟩
        case measure => (simp [intOf]; try omega)
    · obtain rfl : i = n := by omega
      have HN := Lib.hid (idx_none (fun j e hje => HNO.out j e (by rw [← H.out.count]; exact (List.getElem?_eq_some_iff.1 hje).1) hje))
      go_wp2_with fail
      go_ret
      exact GivesInt.ret HN.out HB.out
set_option maxHeartbeats 2000000 in
theorem conUp (L : List Dat) (A : Option Addr) (n c : Nat) (x : Int) (g : Nat) (w : World) (h : Lies w (.l L) [.slice A n c]) (ht : ∀ x ∈ L, Has tyLink x) (hn : n ≤ 1099511627776) (h1 : Box g [.int .i64 x] w) :
    Calls Tryz.prog 68 #[.slice A n c, .func (.func 69) #[] #[.pointer (some ⟨g, 0, none⟩)]] w (GivesBool (L.any (upIs x)) w) := by
  obtain ⟨z, hz⟩ : ∃ z, idx (upIs x) L = z := ⟨_, rfl⟩
  have HE : Hid (decide (0 ≤ z) = L.any (upIs x)) := Lib.hid (by rw [← hz]; exact idx_any _ _)
  have HZ := Lib.hid hz
  clear hz
  go_enter Tryz.func68, Tryz.ntmps68
  go_wp2_with fail
  refine (idxUp L A n c x g _ h ht hn h1).mono ?_
  rintro e w1 ⟨rfl, hb⟩
  rw [HZ.out]
  have HB := Lib.hid hb
  clear hb h ht h1
  go_wp2_with fail
  go_ret
  exact GivesBool.of HE.out HB.out
set_option maxHeartbeats 2000000 in
theorem implIsUp (f0 : Int) (L1 : List Dat) (A1 : Option Addr) (n1 c1 : Nat) (L2 : List Dat) (A2 : Option Addr) (n2 c2 : Nat) (L3 : List Dat) (A3 : Option Addr) (n3 c3 : Nat) (L4 : List Dat) (A4 : Option Addr) (n4 c4 : Nat) (x : Int) (w : World) (hl3 : Lies w (.l L3) [.slice A3 n3 c3]) (ht3 : ∀ x ∈ L3, Has tyLink x) (hn3 : n3 ≤ 1099511627776) :
    Calls Tryz.prog 31 #[.agg #[.int .i64 f0, .slice A1 n1 c1, .slice A2 n2 c2, .slice A3 n3 c3, .slice A4 n4 c4], .int .i64 x] w (GivesBool (L3.any (upIs x)) w) := by
  have X := Lib.hid (((Held.start w).push #[.int .i64 f0, .slice A1 n1 c1, .slice A2 n2 c2, .slice A3 n3 c3, .slice A4 n4 c4] 42).push #[.int .i64 x] 3)
  simp only [World.size_alloc] at X
  have HL := Lib.hid (hl3.below X.out.1)
  have z3 := X.out.at_ (g := w.heap.size) (i := 3) (v := .slice A3 n3 c3) (cs := [.int .i64 f0, .slice A1 n1 c1, .slice A2 n2 c2, .slice A3 n3 c3, .slice A4 n4 c4]) (by repeat (first | exact List.mem_cons_self | refine List.mem_cons_of_mem _ ?_)) rfl
  have HX := Lib.hid (X.out.box (g := w.heap.size + 1) (cs := [.int .i64 x]) (by repeat (first | exact List.mem_cons_self | refine List.mem_cons_of_mem _ ?_)))
  clear hl3
  go_enter Tryz.func31, Tryz.ntmps31
  go_wp2_with fail
  refine (conUp L3 A3 n3 c3 x _ _ HL.out ht3 hn3 HX.out).mono ?_
  rintro e w1 ⟨rfl, hb⟩
  have HB := Lib.hid (X.out.1.trans (hb.mono X.out.1.size))
  clear hb
  go_wp2_with fail
  go_ret
  exact GivesBool.of rfl HB.out
end Go.Proofs.YtmeacgpebpfpbaaGreat
end
