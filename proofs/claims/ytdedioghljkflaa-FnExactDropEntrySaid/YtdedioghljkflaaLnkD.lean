/- Chapter 10: DropEntry, both sides. -/
import Derived.Test.YtdedioghljkflaaLnkC
import Derived.LoopTactic
import Derived.Lib.Hide
import Derived.Deep.QuietTactic
import Derived.BigQuiet
import Derived.Deep.RegionWith
import Derived.Handy
namespace Go.Proofs.Ytdedioghljkflaa
open Go.RowKit
set_option linter.unusedVariables false
set_option linter.unusedSimpArgs false
def dropQ (x : Int) (L : List Dat) : List Dat := L.filter fun d => !isF 0 x d
theorem drop_keep {x : Int} {L : List Dat} {i : Nat} {d : Dat} (h : L[i]? = some d) (hp : isF 0 x d = false) : dropQ x (L.take (i + 1)) = dropQ x (L.take i) ++ [d] := by
  rw [dropQ, List.take_add_one, h, List.filter_append]
  simp [dropQ, hp]
theorem drop_skip {x : Int} {L : List Dat} {i : Nat} {d : Dat} (h : L[i]? = some d) (hp : isF 0 x d = true) : dropQ x (L.take (i + 1)) = dropQ x (L.take i) := by
  rw [dropQ, List.take_add_one, h, List.filter_append]
  simp [dropQ, hp]
theorem drop_len (x : Int) (L : List Dat) (i : Nat) : (dropQ x (L.take i)).length ≤ i := Nat.le_trans (List.length_filter_le _ _) (by rw [List.length_take]; omega)
theorem Src.lit2 {w : World} {a b : Int} {o : Obj} {T : TypeId} : Src 2 ((w.alloc o).alloc (.cells #[.int .i64 a, .int .i64 b] T)) (some ⟨w.heap.size + 1, 0, none⟩) 1 [.r [.i a, .i b]] (fun _ => False) := by
  have h := Src.lit (w := w.alloc o) (E := T) (C := #[.int .i64 a, .int .i64 b]) (d := .r [.i a, .i b]) (B := fun _ => False) (k := 2) rfl (Lies.owns rfl ((X2.lies (w := w.alloc o) ⟨a, b, rfl⟩).2 rfl)) rfl (fun b h => h.elim)
  rwa [World.size_alloc] at h
theorem Src.lit1 {w : World} {a b : Int} {T : TypeId} : Src 2 (w.alloc (.cells #[.int .i64 a, .int .i64 b] T)) (some ⟨w.heap.size, 0, none⟩) 1 [.r [.i a, .i b]] (fun _ => False) :=
  Src.lit (w := w) (E := T) (C := #[.int .i64 a, .int .i64 b]) (d := .r [.i a, .i b]) (B := fun _ => False) (k := 2) rfl (Lies.owns rfl ((X2.lies (w := w) ⟨a, b, rfl⟩).2 rfl)) rfl (fun b h => h.elim)
/-- After i elements. -/
structure DropI (W : World) (x : Int) (L : List Dat) (i : Nat) (w : World) (A : Option Addr) (m c : Nat) : Prop where
  row : Grow 60 2 W.heap.size w A m c (dropQ x (L.take i)) (fun _ => False)
  low : Below W.heap.size W w
section
variable {W w w1 w' : World} {x : Int} {L : List Dat} {i m c c' : Nat} {A A' : Option Addr} {d : Dat}
theorem DropI.len (h : DropI W x L i w A m c) : m ≤ i := by have h1 := h.row.owns.lies.count; have h2 := drop_len x L i; omega
theorem DropI.below (h : DropI W x L i w A m c) (hb : Below w.heap.size w w') : DropI W x L i w' A m c := ⟨h.row.below hb, h.low.trans (hb.mono h.low.size)⟩
theorem DropI.skip (h : DropI W x L i w A m c) (hd : L[i]? = some d) (hp : isF 0 x d = true) : DropI W x L (i + 1) w A m c := ⟨by rw [drop_skip hd hp]; exact h.row, h.low⟩
theorem DropI.next (h : DropI W x L i w A m c) (hd : L[i]? = some d) (hp : isF 0 x d = false) (hG : Grow 60 2 W.heap.size w' A' (m + 1) c' (dropQ x (L.take i) ++ [d]) (fun _ => False ∨ False)) (hT : Touch (fun b => ∃ a, A = some a ∧ b = a.block) w w') : DropI W x L (i + 1) w' A' (m + 1) c' :=
  ⟨by rw [drop_keep hd hp]; exact hG.noF (fun b h => h.elim (fun h => h) (fun h => h)), h.low.trans (hT.below (fun b ⟨a, e, hb⟩ => by rw [hb]; exact (h.row.blkF a e).1) h.low.size)⟩
theorem DropI.ret (h : DropI W x L i w A m c) (hn : L.length = i) : FreshD (dropQ x L) W (.returned (.slice A m c)) w := by
  have h1 := h.row
  rw [List.take_of_length_le (by omega)] at h1
  exact ⟨A, m, c, rfl, h1.owns.mono (fun b hb => by
    rcases hb with ⟨a, e, rfl⟩ | hb
    · exact h1.blkF a e
    · exact hb.elim), h.low⟩
end
set_option maxRecDepth 100000 in
set_option maxHeartbeats 4000000 in
theorem implDrop (L : List Dat) (A : Option Addr) (n c : Nat) (x : Int) (w : World) (h : Lies w (.l L) [.slice A n c]) (ht : ∀ x ∈ L, Has tyQuestion x) (hn : n ≤ 1099511627776) :
    Calls Try.prog 22 #[.slice A n c, .int .i64 x] w (FreshD (dropQ x L) w) := by
  obtain ⟨i0, hi, hz0, hz1, hz2⟩ := info_parts infoQuestion
  have H := Lib.hid h
  have HT := Lib.hid ht
  have HC := Lib.hid h.count
  have D0 : Hid (DropI w x L 0 (w.alloc (.cells #[] 60)) (some ⟨w.heap.size, 0, none⟩) 0 0) := Lib.hid ⟨Grow.lit9 60 2 w, (Below.refl _ _).alloc (Nat.le_refl _) _⟩
  clear h ht
  go_enter Try.func22, Try.ntmps22
  go_wp2
  go_loopw [5, 11] (fun kv iv wr => ∃ (B : Option Addr) (m k i : Nat), kv = .slice B m k ∧ iv = .int .i64 i ∧ i ≤ n ∧ DropI w x L i wr B m k) (fun _ iv _ => n - (intOf iv).toNat)
  case atStart => exact ⟨_, _, _, 0, rfl, rfl, Nat.zero_le _, D0.out⟩
  case round =>
    obtain ⟨B, m, k, i, rfl, rfl, hin, hD⟩ := hrel
    clear D0
    have HD := Lib.hid hD
    have hml := hD.len
    clear hD
    by_cases hlt : i < n
    · obtain ⟨b, off, d, xs, rfl, hbw, hzi, hlie, hlen, hcell⟩ := (H.out.below HD.out.low).elem (fun x hx => (HT.out x hx).width) hlt
      obtain ⟨p0, p1, hd, rfl⟩ := invQuestion (HT.out d (List.mem_of_getElem? hzi)) hlie
      have r0 : wr.cell? ⟨b, off + i * 2, none⟩ = some (.int .i64 p0) := hcell 0 _ rfl
      have r1 : wr.cell? ⟨b, off + i * 2 + 1, none⟩ = some (.int .i64 p1) := hcell 1 _ rfl
      have HZ : Hid (L[i]? = some (.r [.i p0, .i p1])) := Lib.hid (by rw [← hd]; exact hzi)
      clear hzi hcell hlie hd
      by_cases e : p0 = x
      · have HN := Lib.hid ((HD.out.below ((Below.refl _ _).alloc (Nat.le_refl _) (.cells #[.int .i64 p0, .int .i64 p1] 60))).skip HZ.out (isF_t (k := 0) (d := .r [.i p0, .i p1]) e))
        have hb0 : (p0 != x) = false := by simpa using e
        have hb1 : (p0 == x) = true := by simpa using e
        clear e
        go_wp2_with fail
        go_roundw
        case rel => exact ⟨B, m, k, i + 1, rfl, by go_num, by omega, HN.out⟩
        case measure => (simp [intOf]; try omega)
      · have HP := Lib.hid (isF_f (k := 0) (d := .r [.i p0, .i p1]) e)
        have hb0 : (p0 != x) = true := by simpa using e
        have hb1 : (p0 == x) = false := by simpa using e
        have HD2 := Lib.hid (HD.out.below (((Below.refl _ _).alloc (Nat.le_refl _) (.cells #[.int .i64 p0, .int .i64 p1] 60)).alloc (by simp) (.cells #[.int .i64 p0, .int .i64 p1] 60)))
        clear e
        go_wp2_with (first
          | (refine wpList_append_dat _ rfl _ _ 25 rfl 2 (by omega) 60 i0 _ 16 Try.underlying25 hi hz0 hz1 rfl hz2 w.heap.size B m k _ _ rfl HD2.out.row (some ⟨wr.heap.size + 1, 0, none⟩) 1 1 [.r [.i p0, .i p1]] (fun _ => False) rfl Src.lit2 (fun b h => h.elim) (fun a e h => h) (by unfold maxLen; omega) (by omega) (by have h1 := HD2.out.low.size; exact h1) ?_; intro A2 c2 w2 hG hT hA; have HN := Lib.hid (HD2.out.next HZ.out HP.out hG hT); clear hG hT hA)
          | fail)
        go_roundw
        case rel => exact ⟨A2, m + 1, c2, i + 1, rfl, by go_num, by omega, HN.out⟩
        case measure => (simp [intOf]; try omega)
    · obtain rfl : i = n := by omega
      have HR := Lib.hid (HD.out.ret HC.out)
      go_wp2_with fail
      go_ret
      exact HR.out
set_option maxRecDepth 100000 in
set_option maxHeartbeats 4000000 in
theorem specDrop (L : List Dat) (A : Option Addr) (n c : Nat) (x : Int) (w : World) (h : Lies w (.l L) [.slice A n c]) (ht : ∀ x ∈ L, Has tyQuestion x) (hn : n ≤ 1099511627776) :
    Calls Try.prog 39 #[.slice A n c, .int .i64 x] w (FreshD (dropQ x L) w) := by
  obtain ⟨i0, hi, hz0, hz1, hz2⟩ := info_parts infoQuestion
  have H := Lib.hid h
  have HT := Lib.hid ht
  have HC := Lib.hid h.count
  have D0 : Hid (DropI w x L 0 (w.alloc (.cells #[] 60)) (some ⟨w.heap.size, 0, none⟩) 0 0) := Lib.hid ⟨Grow.lit9 60 2 w, (Below.refl _ _).alloc (Nat.le_refl _) _⟩
  clear h ht
  go_enter Try.func39, Try.ntmps39
  go_wp2
  go_loopw [5, 6] (fun kv iv wr => ∃ (B : Option Addr) (m k i : Nat), kv = .slice B m k ∧ iv = .int .i64 i ∧ i ≤ n ∧ DropI w x L i wr B m k) (fun _ iv _ => n - (intOf iv).toNat)
  case atStart => exact ⟨_, _, _, 0, rfl, rfl, Nat.zero_le _, D0.out⟩
  case round =>
    obtain ⟨B, m, k, i, rfl, rfl, hin, hD⟩ := hrel
    clear D0
    have HD := Lib.hid hD
    have hml := hD.len
    clear hD
    by_cases hlt : i < n
    · obtain ⟨b, off, d, xs, rfl, hbw, hzi, hlie, hlen, hcell⟩ := (H.out.below HD.out.low).elem (fun x hx => (HT.out x hx).width) hlt
      obtain ⟨p0, p1, hd, rfl⟩ := invQuestion (HT.out d (List.mem_of_getElem? hzi)) hlie
      have r0 : wr.cell? ⟨b, off + i * 2, none⟩ = some (.int .i64 p0) := hcell 0 _ rfl
      have r1 : wr.cell? ⟨b, off + i * 2 + 1, none⟩ = some (.int .i64 p1) := hcell 1 _ rfl
      have HZ : Hid (L[i]? = some (.r [.i p0, .i p1])) := Lib.hid (by rw [← hd]; exact hzi)
      clear hzi hcell hlie hd
      by_cases e : p0 = x
      · have HN := Lib.hid (HD.out.skip HZ.out (isF_t (k := 0) (d := .r [.i p0, .i p1]) e))
        have hb0 : (p0 != x) = false := by simpa using e
        have hb1 : (p0 == x) = true := by simpa using e
        clear e
        go_wp2_with fail
        go_roundw
        case rel => exact ⟨B, m, k, i + 1, rfl, by go_num, by omega, HN.out⟩
        case measure => (simp [intOf]; try omega)
      · have HP := Lib.hid (isF_f (k := 0) (d := .r [.i p0, .i p1]) e)
        have hb0 : (p0 != x) = true := by simpa using e
        have hb1 : (p0 == x) = false := by simpa using e
        have HD2 := Lib.hid (HD.out.below ((Below.refl _ _).alloc (Nat.le_refl _) (.cells #[.int .i64 p0, .int .i64 p1] 60)))
        clear e
        go_wp2_with (first
          | (refine wpList_append_dat _ rfl _ _ 25 rfl 2 (by omega) 60 i0 _ 16 Try.underlying25 hi hz0 hz1 rfl hz2 w.heap.size B m k _ _ rfl HD2.out.row (some ⟨wr.heap.size, 0, none⟩) 1 1 [.r [.i p0, .i p1]] (fun _ => False) rfl Src.lit1 (fun b h => h.elim) (fun a e h => h) (by unfold maxLen; omega) (by omega) (by have h1 := HD2.out.low.size; exact h1) ?_; intro A2 c2 w2 hG hT hA; have HN := Lib.hid (HD2.out.next HZ.out HP.out hG hT); clear hG hT hA)
          | fail)
        go_roundw
        case rel => exact ⟨A2, m + 1, c2, i + 1, rfl, by go_num, by omega, HN.out⟩
        case measure => (simp [intOf]; try omega)
    · obtain rfl : i = n := by omega
      have HR := Lib.hid (HD.out.ret HC.out)
      go_wp2_with fail
      go_ret
      exact HR.out
end Go.Proofs.Ytdedioghljkflaa
