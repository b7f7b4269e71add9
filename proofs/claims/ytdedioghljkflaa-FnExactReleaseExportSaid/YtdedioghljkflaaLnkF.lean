/- Chapter 10: searches, both sides. -/
import Derived.Test.YtdedioghljkflaaLnkV
import Derived.LoopTactic
import Derived.Lib.Hide
import Derived.Deep.QuietTactic
import Derived.BigQuiet
import Derived.Deep.RegionWith
import Derived.Handy
namespace Go.Proofs.Ytdedioghljkflaa
open Go.RowKit
set_option linter.unusedVariables false
set_option linter.unusedSimpArgs false
/-! ### The first element that .. -/
def look (p : Dat → Bool) (k : Nat) (z : Int) : List Dat → Int
  | [] => z
  | d :: L => if p d then fld k d else look p k z L
theorem look_at {p : Dat → Bool} {k : Nat} {z : Int} : ∀ {L : List Dat} {i : Nat} {d : Dat}, (∀ (j : Nat) (e : Dat), j < i → L[j]? = some e → p e = false) → L[i]? = some d → p d = true → look p k z L = fld k d
  | [], _, _, _, h, _ => by simp at h
  | x :: L, 0, d, _, h, hn => by
    obtain rfl : x = d := by simpa using h
    rw [look, if_pos hn]
  | x :: L, i + 1, d, h0, h, hn => by
    rw [look, if_neg (by rw [h0 0 x (by omega) rfl]; simp), look_at (i := i) (fun j e hj he => h0 (j + 1) e (by omega) (by simpa using he)) (by simpa using h) hn]
theorem look_none {p : Dat → Bool} {k : Nat} {z : Int} : ∀ {L : List Dat}, (∀ x ∈ L, p x = false) → look p k z L = z
  | [], _ => rfl
  | x :: L, h0 => by rw [look, if_neg (by rw [h0 x List.mem_cons_self]; simp), look_none (fun y hy => h0 y (List.mem_cons_of_mem _ hy))]
theorem look_none' {p : Dat → Bool} {k : Nat} {z : Int} {L : List Dat} {n : Nat} (hn : L.length = n) (h : ∀ (j : Nat) (e : Dat), j < n → L[j]? = some e → p e = false) : look p k z L = z := look_none fun x hx => by
  obtain ⟨j, hj⟩ := List.mem_iff_getElem?.1 hx
  exact h j x (by rw [← hn]; exact (List.getElem?_eq_some_iff.1 hj).1) hj
theorem idx_first {p : Dat → Bool} : ∀ {L : List Dat} {k : Int} {i : Nat}, idxFrom p L k = k + i → (∀ (j : Nat) (e : Dat), j < i → L[j]? = some e → p e = false)
  | [], _, _, _ => fun j e _ h => by simp at h
  | x :: L, k, i, h => fun j e hj he => by
    rw [idxFrom] at h
    cases hp : p x with
    | true => rw [hp, if_pos rfl] at h; omega
    | false =>
      rw [hp, if_neg (by simp)] at h
      cases j with
      | zero => obtain rfl : x = e := by simpa using he
                exact hp
      | succ j =>
        obtain ⟨i', rfl⟩ : ∃ i', i = i' + 1 := ⟨i - 1, by omega⟩
        exact idx_first (k := k + 1) (i := i') (by rw [h]; omega) j e (by omega) (by simpa using he)
theorem idx_cases1 (p : Dat → Bool) (L : List Dat) : (idx p L = -1 ∧ ∀ x ∈ L, p x = false) ∨ ∃ (i : Nat) (d : Dat), idx p L = i ∧ L[i]? = some d ∧ p d = true ∧ i < L.length ∧ ∀ (j : Nat) (e : Dat), j < i → L[j]? = some e → p e = false := by
  rcases idx_cases p L with h | ⟨i, d, h1, h2, h3, h4⟩
  · exact Or.inl h
  · exact Or.inr ⟨i, d, h1, h2, h3, h4, idx_first (k := 0) (by rw [← idx, h1]; omega)⟩
theorem no_next {p : Dat → Bool} {L : List Dat} {i : Nat} {d : Dat} (h : ∀ (j : Nat) (e : Dat), j < i → L[j]? = some e → p e = false) (hd : L[i]? = some d) (hp : p d = false) : ∀ (j : Nat) (e : Dat), j < i + 1 → L[j]? = some e → p e = false := fun j e hj hje => by
  by_cases hji : j < i
  · exact h j e hji hje
  · obtain rfl : j = i := by omega
    rw [hd] at hje
    obtain rfl := Option.some.inj hje
    exact hp
set_option maxHeartbeats 1000000 in
theorem implAtPos (a b c x : Int) (g : Nat) (w : World) (h1 : Box g [.int .i64 x] w) :
    Calls Try.prog 65 #[.agg #[.int .i64 a, .int .i64 b, .int .i64 c], .pointer (some ⟨g, 0, none⟩)] w (GivesBool (isF 0 x (.r [.i a, .i b, .i c])) w) := by
  have B0 : Hid (Below w.heap.size w (w.alloc (.cells #[.int .i64 a, .int .i64 b, .int .i64 c] 54))) := Lib.hid ((Below.refl _ _).alloc (Nat.le_refl _) _)
  have c0 := (h1.below B0.out).2 0 _ rfl
  clear h1
  by_cases e : a = x
  · have HE : Hid (true = isF 0 x (.r [.i a, .i b, .i c])) := Lib.hid (isF_t (k := 0) (d := .r [.i a, .i b, .i c]) e).symm
    have hb : (a == x) = true := by simpa using e
    clear e
    go_enter Try.func65, Try.ntmps65
    go_wp2_with fail
    go_ret
    exact GivesBool.of HE.out B0.out
  · have HE : Hid (false = isF 0 x (.r [.i a, .i b, .i c])) := Lib.hid (isF_f (k := 0) (d := .r [.i a, .i b, .i c]) e).symm
    have hb : (a == x) = false := by simpa using e
    clear e
    go_enter Try.func65, Try.ntmps65
    go_wp2_with fail
    go_ret
    exact GivesBool.of HE.out B0.out
set_option maxHeartbeats 1000000 in
theorem implAtEnt (a b c x : Int) (g : Nat) (w : World) (h1 : Box g [.int .i64 x] w) :
    Calls Try.prog 64 #[.agg #[.int .i64 a, .int .i64 b, .int .i64 c], .pointer (some ⟨g, 0, none⟩)] w (GivesBool (isF 1 x (.r [.i a, .i b, .i c])) w) := by
  have B0 : Hid (Below w.heap.size w (w.alloc (.cells #[.int .i64 a, .int .i64 b, .int .i64 c] 54))) := Lib.hid ((Below.refl _ _).alloc (Nat.le_refl _) _)
  have c0 := (h1.below B0.out).2 0 _ rfl
  clear h1
  by_cases e : b = x
  · have HE : Hid (true = isF 1 x (.r [.i a, .i b, .i c])) := Lib.hid (isF_t (k := 1) (d := .r [.i a, .i b, .i c]) e).symm
    have hb : (b == x) = true := by simpa using e
    clear e
    go_enter Try.func64, Try.ntmps64
    go_wp2_with fail
    go_ret
    exact GivesBool.of HE.out B0.out
  · have HE : Hid (false = isF 1 x (.r [.i a, .i b, .i c])) := Lib.hid (isF_f (k := 1) (d := .r [.i a, .i b, .i c]) e).symm
    have hb : (b == x) = false := by simpa using e
    clear e
    go_enter Try.func64, Try.ntmps64
    go_wp2_with fail
    go_ret
    exact GivesBool.of HE.out B0.out
set_option maxHeartbeats 2000000 in
theorem idxPos (L : List Dat) (A : Option Addr) (n c : Nat) (x : Int) (g : Nat) (w : World) (h : Lies w (.l L) [.slice A n c]) (ht : ∀ x ∈ L, Has tyExport x) (hn : n ≤ 1099511627776) (h1 : Box g [.int .i64 x] w) :
    Calls Try.prog 63 #[.slice A n c, .func (.func 65) #[] #[.pointer (some ⟨g, 0, none⟩)]] w (GivesInt (idx (isF 0 x) L) w) := by
  have H := Lib.hid h
  have HT := Lib.hid ht
  have H1 := Lib.hid h1
  clear h ht h1
  go_enter Try.func63, Try.ntmps63
  go_wp2
  go_loopw [8] (fun iv wr => ∃ i : Nat, i ≤ n ∧ iv = .int .i64 i ∧ (∀ (j : Nat) (e : Dat), j < i → L[j]? = some e → isF 0 x e = false) ∧ Below w.heap.size w wr) (fun iv _ => n - (intOf iv).toNat)
  case atStart => exact ⟨0, Nat.zero_le _, rfl, fun j e hj => by omega, Below.refl _ _⟩
  case round =>
    obtain ⟨i, hin, rfl, hno, hb0⟩ := hrel
    have HNO := Lib.hid hno
    have HB := Lib.hid hb0
    clear hno hb0
    by_cases hlt : i < n
    · obtain ⟨b, off, d, xs, rfl, hbw, hzi, hlie, hlen, hcell⟩ := (H.out.below HB.out).elem (fun x hx => (HT.out x hx).width) hlt
      obtain ⟨f0, f1, f2, hd, rfl⟩ := invExport (HT.out d (List.mem_of_getElem? hzi)) hlie
      have r0 : wr.cell? ⟨b, off + i * 3, none⟩ = some (.int .i64 f0) := hcell 0 _ rfl
      have r1 : wr.cell? ⟨b, off + i * 3 + 1, none⟩ = some (.int .i64 f1) := hcell 1 _ rfl
      have r2 : wr.cell? ⟨b, off + i * 3 + 2, none⟩ = some (.int .i64 f2) := hcell 2 _ rfl
      have HZ := Lib.hid hzi
      have HD := Lib.hid hd
      clear hzi hcell hlie hd
      obtain ⟨v, hv⟩ : ∃ v, isF 0 x (.r [.i f0, .i f1, .i f2]) = v := ⟨_, rfl⟩
      have HV : Hid (isF 0 x d = v) := Lib.hid (by rw [HD.out, hv])
      have HV2 := Lib.hid hv
      clear hv
      cases v with
      | true =>
        have HN := Lib.hid (idx_at HNO.out HZ.out HV.out)
        go_wp2_with fail
        refine (implAtPos f0 f1 f2 x g _ (H1.out.below HB.out)).mono ?_
        rintro e w2 ⟨rfl, hb⟩
        rw [HV2.out]
        have HB2 := Lib.hid (HB.out.trans (hb.mono HB.out.size))
        clear hb
        go_wp2_with fail
        go_ret
        exact GivesInt.ret HN.out HB2.out
      | false =>
        have HN := Lib.hid (no_next HNO.out HZ.out HV.out)
        go_wp2_with fail
        refine (implAtPos f0 f1 f2 x g _ (H1.out.below HB.out)).mono ?_
        rintro e w2 ⟨rfl, hb⟩
        rw [HV2.out]
        have HB2 := Lib.hid (HB.out.trans (hb.mono HB.out.size))
        clear hb
        go_wp2_with fail
        go_roundw
        case rel => exact ⟨i + 1, by omega, by go_num, HN.out, HB2.out⟩
        case measure => (simp [intOf]; try omega)
    · obtain rfl : i = n := by omega
      have HN := Lib.hid (idx_none (fun j e hje => HNO.out j e (by rw [← H.out.count]; exact (List.getElem?_eq_some_iff.1 hje).1) hje))
      go_wp2_with fail
      go_ret
      exact GivesInt.ret HN.out HB.out
set_option maxHeartbeats 2000000 in
theorem idxEnt (L : List Dat) (A : Option Addr) (n c : Nat) (x : Int) (g : Nat) (w : World) (h : Lies w (.l L) [.slice A n c]) (ht : ∀ x ∈ L, Has tyExport x) (hn : n ≤ 1099511627776) (h1 : Box g [.int .i64 x] w) :
    Calls Try.prog 63 #[.slice A n c, .func (.func 64) #[] #[.pointer (some ⟨g, 0, none⟩)]] w (GivesInt (idx (isF 1 x) L) w) := by
  have H := Lib.hid h
  have HT := Lib.hid ht
  have H1 := Lib.hid h1
  clear h ht h1
  go_enter Try.func63, Try.ntmps63
  go_wp2
  go_loopw [8] (fun iv wr => ∃ i : Nat, i ≤ n ∧ iv = .int .i64 i ∧ (∀ (j : Nat) (e : Dat), j < i → L[j]? = some e → isF 1 x e = false) ∧ Below w.heap.size w wr) (fun iv _ => n - (intOf iv).toNat)
  case atStart => exact ⟨0, Nat.zero_le _, rfl, fun j e hj => by omega, Below.refl _ _⟩
  case round =>
    obtain ⟨i, hin, rfl, hno, hb0⟩ := hrel
    have HNO := Lib.hid hno
    have HB := Lib.hid hb0
    clear hno hb0
    by_cases hlt : i < n
    · obtain ⟨b, off, d, xs, rfl, hbw, hzi, hlie, hlen, hcell⟩ := (H.out.below HB.out).elem (fun x hx => (HT.out x hx).width) hlt
      obtain ⟨f0, f1, f2, hd, rfl⟩ := invExport (HT.out d (List.mem_of_getElem? hzi)) hlie
      have r0 : wr.cell? ⟨b, off + i * 3, none⟩ = some (.int .i64 f0) := hcell 0 _ rfl
      have r1 : wr.cell? ⟨b, off + i * 3 + 1, none⟩ = some (.int .i64 f1) := hcell 1 _ rfl
      have r2 : wr.cell? ⟨b, off + i * 3 + 2, none⟩ = some (.int .i64 f2) := hcell 2 _ rfl
      have HZ := Lib.hid hzi
      have HD := Lib.hid hd
      clear hzi hcell hlie hd
      obtain ⟨v, hv⟩ : ∃ v, isF 1 x (.r [.i f0, .i f1, .i f2]) = v := ⟨_, rfl⟩
      have HV : Hid (isF 1 x d = v) := Lib.hid (by rw [HD.out, hv])
      have HV2 := Lib.hid hv
      clear hv
      cases v with
      | true =>
        have HN := Lib.hid (idx_at HNO.out HZ.out HV.out)
        go_wp2_with fail
        refine (implAtEnt f0 f1 f2 x g _ (H1.out.below HB.out)).mono ?_
        rintro e w2 ⟨rfl, hb⟩
        rw [HV2.out]
        have HB2 := Lib.hid (HB.out.trans (hb.mono HB.out.size))
        clear hb
        go_wp2_with fail
        go_ret
        exact GivesInt.ret HN.out HB2.out
      | false =>
        have HN := Lib.hid (no_next HNO.out HZ.out HV.out)
        go_wp2_with fail
        refine (implAtEnt f0 f1 f2 x g _ (H1.out.below HB.out)).mono ?_
        rintro e w2 ⟨rfl, hb⟩
        rw [HV2.out]
        have HB2 := Lib.hid (HB.out.trans (hb.mono HB.out.size))
        clear hb
        go_wp2_with fail
        go_roundw
        case rel => exact ⟨i + 1, by omega, by go_num, HN.out, HB2.out⟩
        case measure => (simp [intOf]; try omega)
    · obtain rfl : i = n := by omega
      have HN := Lib.hid (idx_none (fun j e hje => HNO.out j e (by rw [← H.out.count]; exact (List.getElem?_eq_some_iff.1 hje).1) hje))
      go_wp2_with fail
      go_ret
      exact GivesInt.ret HN.out HB.out
set_option maxHeartbeats 1000000 in
theorem implPlP (L : List Dat) (A : Option Addr) (n c : Nat) (x : Int) (w : World) (h : Lies w (.l L) [.slice A n c]) (ht : ∀ x ∈ L, Has tyExport x) (hn : n ≤ 1099511627776) :
    Calls Try.prog 46 #[.slice A n c, .int .i64 x] w (GivesInt (idx (isF 0 x) L) w) := by
  have B0 : Hid (Below w.heap.size w (w.alloc (.cells #[.int .i64 x] 3))) := Lib.hid ((Below.refl _ _).alloc (Nat.le_refl _) _)
  have HL := Lib.hid (h.below B0.out)
  have X := Lib.hid (Box.new w #[.int .i64 x] 3)
  clear h
  go_enter Try.func46, Try.ntmps46
  go_wp2_with fail
  refine (idxPos L A n c x _ _ HL.out ht hn X.out).mono ?_
  rintro e w1 ⟨rfl, hb⟩
  have HB := Lib.hid (B0.out.trans (hb.mono B0.out.size))
  clear hb
  go_wp2_with fail
  go_ret
  exact GivesInt.ret rfl HB.out
set_option maxHeartbeats 1000000 in
theorem implPlE (L : List Dat) (A : Option Addr) (n c : Nat) (x : Int) (w : World) (h : Lies w (.l L) [.slice A n c]) (ht : ∀ x ∈ L, Has tyExport x) (hn : n ≤ 1099511627776) :
    Calls Try.prog 45 #[.slice A n c, .int .i64 x] w (GivesInt (idx (isF 1 x) L) w) := by
  have B0 : Hid (Below w.heap.size w (w.alloc (.cells #[.int .i64 x] 3))) := Lib.hid ((Below.refl _ _).alloc (Nat.le_refl _) _)
  have HL := Lib.hid (h.below B0.out)
  have X := Lib.hid (Box.new w #[.int .i64 x] 3)
  clear h
  go_enter Try.func45, Try.ntmps45
  go_wp2_with fail
  refine (idxEnt L A n c x _ _ HL.out ht hn X.out).mono ?_
  rintro e w1 ⟨rfl, hb⟩
  have HB := Lib.hid (B0.out.trans (hb.mono B0.out.size))
  clear hb
  go_wp2_with fail
  go_ret
  exact GivesInt.ret rfl HB.out
set_option maxHeartbeats 2000000 in
theorem implFind (f0 : Int) (f1 : Bool) (L2 : List Dat) (A2 : Option Addr) (n2 c2 : Nat) (f3 : Int) (L4 : List Dat) (A4 : Option Addr) (n4 c4 : Nat) (f5 : Int) (L6 : List Dat) (A6 : Option Addr) (n6 c6 : Nat) (x : Int) (w : World) (hl2 : Lies w (.l L2) [.slice A2 n2 c2]) (ht2 : ∀ x ∈ L2, Has tyExport x) (hn2 : n2 ≤ 1099511627776) :
    Calls Try.prog 16 #[.agg #[.int .i64 f0, .bool f1, .slice A2 n2 c2, .int .i64 f3, .slice A4 n4 c4, .int .i64 f5, .slice A6 n6 c6], .int .i64 x] w (GivesInt (look (isF 0 x) 1 (-1) L2) w) := by
  have X := Lib.hid ((Held.start w).push #[.int .i64 f0, .bool f1, .slice A2 n2 c2, .int .i64 f3, .slice A4 n4 c4, .int .i64 f5, .slice A6 n6 c6] 27)
  have H := Lib.hid hl2
  have HT := Lib.hid ht2
  clear hl2 ht2
  rcases idx_cases1 (isF 0 x) L2 with ⟨h1, h2⟩ | ⟨i, d, h1, h2, h3, h4, h5⟩
  · have HV := Lib.hid (look_none (k := 1) (z := -1) h2).symm
    have HI := Lib.hid h1
    clear h1 h2
    go_enter Try.func16, Try.ntmps16
    go_wp2_with fail
    refine (implPlP L2 A2 n2 c2 x _ (H.out.below X.out.1) HT.out hn2).mono ?_
    rintro e w1 ⟨rfl, hb⟩
    rw [HI.out]
    replace X := Lib.hid (X.out.below hb)
    clear hb
    have z0 := X.out.at_ (g := w.heap.size) (i := 0) (v := .int .i64 f0) (cs := [.int .i64 f0, .bool f1, .slice A2 n2 c2, .int .i64 f3, .slice A4 n4 c4, .int .i64 f5, .slice A6 n6 c6]) (by repeat (first | exact List.mem_cons_self | refine List.mem_cons_of_mem _ ?_)) rfl
    have z1 := X.out.at_ (g := w.heap.size) (i := 1) (v := .bool f1) (cs := [.int .i64 f0, .bool f1, .slice A2 n2 c2, .int .i64 f3, .slice A4 n4 c4, .int .i64 f5, .slice A6 n6 c6]) (by repeat (first | exact List.mem_cons_self | refine List.mem_cons_of_mem _ ?_)) rfl
    have z2 := X.out.at_ (g := w.heap.size) (i := 2) (v := .slice A2 n2 c2) (cs := [.int .i64 f0, .bool f1, .slice A2 n2 c2, .int .i64 f3, .slice A4 n4 c4, .int .i64 f5, .slice A6 n6 c6]) (by repeat (first | exact List.mem_cons_self | refine List.mem_cons_of_mem _ ?_)) rfl
    have z3 := X.out.at_ (g := w.heap.size) (i := 3) (v := .int .i64 f3) (cs := [.int .i64 f0, .bool f1, .slice A2 n2 c2, .int .i64 f3, .slice A4 n4 c4, .int .i64 f5, .slice A6 n6 c6]) (by repeat (first | exact List.mem_cons_self | refine List.mem_cons_of_mem _ ?_)) rfl
    have z4 := X.out.at_ (g := w.heap.size) (i := 4) (v := .slice A4 n4 c4) (cs := [.int .i64 f0, .bool f1, .slice A2 n2 c2, .int .i64 f3, .slice A4 n4 c4, .int .i64 f5, .slice A6 n6 c6]) (by repeat (first | exact List.mem_cons_self | refine List.mem_cons_of_mem _ ?_)) rfl
    have z5 := X.out.at_ (g := w.heap.size) (i := 5) (v := .int .i64 f5) (cs := [.int .i64 f0, .bool f1, .slice A2 n2 c2, .int .i64 f3, .slice A4 n4 c4, .int .i64 f5, .slice A6 n6 c6]) (by repeat (first | exact List.mem_cons_self | refine List.mem_cons_of_mem _ ?_)) rfl
    have z6 := X.out.at_ (g := w.heap.size) (i := 6) (v := .slice A6 n6 c6) (cs := [.int .i64 f0, .bool f1, .slice A2 n2 c2, .int .i64 f3, .slice A4 n4 c4, .int .i64 f5, .slice A6 n6 c6]) (by repeat (first | exact List.mem_cons_self | refine List.mem_cons_of_mem _ ?_)) rfl
    go_wp2_with fail
    go_ret
    exact GivesInt.ret HV.out X.out.1
  · have hv := look_at (k := 1) (z := -1) h5 h2 h3
    have hli := h4
    rw [H.out.count] at hli
    have HI := Lib.hid h1
    have HD := Lib.hid h2
    have HV := Lib.hid hv
    clear h1 h2 h3 h4 h5 hv
    go_enter Try.func16, Try.ntmps16
    go_wp2_with fail
    refine (implPlP L2 A2 n2 c2 x _ (H.out.below X.out.1) HT.out hn2).mono ?_
    rintro e w1 ⟨rfl, hb⟩
    rw [HI.out]
    replace X := Lib.hid (X.out.below hb)
    clear hb
    obtain ⟨b, off, d', xs, rfl, hbw, hzi, hlie, hlen, hcell⟩ := (H.out.below X.out.1).elem (fun x hx => (HT.out x hx).width) hli
    obtain rfl : d = d' := by have h1 := HD.out; rw [hzi] at h1; exact (Option.some.inj h1).symm
    obtain ⟨f0', f1', f2', hd, rfl⟩ := invExport (HT.out d (List.mem_of_getElem? hzi)) hlie
    have r0 : w1.cell? ⟨b, off + i * 3, none⟩ = some (.int .i64 f0') := hcell 0 _ rfl
    have r1 : w1.cell? ⟨b, off + i * 3 + 1, none⟩ = some (.int .i64 f1') := hcell 1 _ rfl
    have HF : Hid (f1' = look (isF 0 x) 1 (-1) L2) := Lib.hid (by rw [HV.out, hd]; rfl)
    clear hzi hlie hcell hd
    have z0 := X.out.at_ (g := w.heap.size) (i := 0) (v := .int .i64 f0) (cs := [.int .i64 f0, .bool f1, .slice (some ⟨b, off, none⟩) n2 c2, .int .i64 f3, .slice A4 n4 c4, .int .i64 f5, .slice A6 n6 c6]) (by repeat (first | exact List.mem_cons_self | refine List.mem_cons_of_mem _ ?_)) rfl
    have z1 := X.out.at_ (g := w.heap.size) (i := 1) (v := .bool f1) (cs := [.int .i64 f0, .bool f1, .slice (some ⟨b, off, none⟩) n2 c2, .int .i64 f3, .slice A4 n4 c4, .int .i64 f5, .slice A6 n6 c6]) (by repeat (first | exact List.mem_cons_self | refine List.mem_cons_of_mem _ ?_)) rfl
    have z2 := X.out.at_ (g := w.heap.size) (i := 2) (v := .slice (some ⟨b, off, none⟩) n2 c2) (cs := [.int .i64 f0, .bool f1, .slice (some ⟨b, off, none⟩) n2 c2, .int .i64 f3, .slice A4 n4 c4, .int .i64 f5, .slice A6 n6 c6]) (by repeat (first | exact List.mem_cons_self | refine List.mem_cons_of_mem _ ?_)) rfl
    have z3 := X.out.at_ (g := w.heap.size) (i := 3) (v := .int .i64 f3) (cs := [.int .i64 f0, .bool f1, .slice (some ⟨b, off, none⟩) n2 c2, .int .i64 f3, .slice A4 n4 c4, .int .i64 f5, .slice A6 n6 c6]) (by repeat (first | exact List.mem_cons_self | refine List.mem_cons_of_mem _ ?_)) rfl
    have z4 := X.out.at_ (g := w.heap.size) (i := 4) (v := .slice A4 n4 c4) (cs := [.int .i64 f0, .bool f1, .slice (some ⟨b, off, none⟩) n2 c2, .int .i64 f3, .slice A4 n4 c4, .int .i64 f5, .slice A6 n6 c6]) (by repeat (first | exact List.mem_cons_self | refine List.mem_cons_of_mem _ ?_)) rfl
    have z5 := X.out.at_ (g := w.heap.size) (i := 5) (v := .int .i64 f5) (cs := [.int .i64 f0, .bool f1, .slice (some ⟨b, off, none⟩) n2 c2, .int .i64 f3, .slice A4 n4 c4, .int .i64 f5, .slice A6 n6 c6]) (by repeat (first | exact List.mem_cons_self | refine List.mem_cons_of_mem _ ?_)) rfl
    have z6 := X.out.at_ (g := w.heap.size) (i := 6) (v := .slice A6 n6 c6) (cs := [.int .i64 f0, .bool f1, .slice (some ⟨b, off, none⟩) n2 c2, .int .i64 f3, .slice A4 n4 c4, .int .i64 f5, .slice A6 n6 c6]) (by repeat (first | exact List.mem_cons_self | refine List.mem_cons_of_mem _ ?_)) rfl
    have hlt0 : (decide ((i : Int) < 0)) = false := by (simp; try omega)
    go_wp2_with fail
    go_ret
    exact GivesInt.ret HF.out X.out.1
set_option maxHeartbeats 2000000 in
theorem implPosOf (f0 : Int) (f1 : Bool) (L2 : List Dat) (A2 : Option Addr) (n2 c2 : Nat) (f3 : Int) (L4 : List Dat) (A4 : Option Addr) (n4 c4 : Nat) (f5 : Int) (L6 : List Dat) (A6 : Option Addr) (n6 c6 : Nat) (x : Int) (w : World) (hl2 : Lies w (.l L2) [.slice A2 n2 c2]) (ht2 : ∀ x ∈ L2, Has tyExport x) (hn2 : n2 ≤ 1099511627776) :
    Calls Try.prog 17 #[.agg #[.int .i64 f0, .bool f1, .slice A2 n2 c2, .int .i64 f3, .slice A4 n4 c4, .int .i64 f5, .slice A6 n6 c6], .int .i64 x] w (GivesInt (look (isF 1 x) 0 (0) L2) w) := by
  have X := Lib.hid ((Held.start w).push #[.int .i64 f0, .bool f1, .slice A2 n2 c2, .int .i64 f3, .slice A4 n4 c4, .int .i64 f5, .slice A6 n6 c6] 27)
  have H := Lib.hid hl2
  have HT := Lib.hid ht2
  clear hl2 ht2
  rcases idx_cases1 (isF 1 x) L2 with ⟨h1, h2⟩ | ⟨i, d, h1, h2, h3, h4, h5⟩
  · have HV := Lib.hid (look_none (k := 0) (z := 0) h2).symm
    have HI := Lib.hid h1
    clear h1 h2
    go_enter Try.func17, Try.ntmps17
    go_wp2_with fail
    refine (implPlE L2 A2 n2 c2 x _ (H.out.below X.out.1) HT.out hn2).mono ?_
    rintro e w1 ⟨rfl, hb⟩
    rw [HI.out]
    replace X := Lib.hid (X.out.below hb)
    clear hb
    have z0 := X.out.at_ (g := w.heap.size) (i := 0) (v := .int .i64 f0) (cs := [.int .i64 f0, .bool f1, .slice A2 n2 c2, .int .i64 f3, .slice A4 n4 c4, .int .i64 f5, .slice A6 n6 c6]) (by repeat (first | exact List.mem_cons_self | refine List.mem_cons_of_mem _ ?_)) rfl
    have z1 := X.out.at_ (g := w.heap.size) (i := 1) (v := .bool f1) (cs := [.int .i64 f0, .bool f1, .slice A2 n2 c2, .int .i64 f3, .slice A4 n4 c4, .int .i64 f5, .slice A6 n6 c6]) (by repeat (first | exact List.mem_cons_self | refine List.mem_cons_of_mem _ ?_)) rfl
    have z2 := X.out.at_ (g := w.heap.size) (i := 2) (v := .slice A2 n2 c2) (cs := [.int .i64 f0, .bool f1, .slice A2 n2 c2, .int .i64 f3, .slice A4 n4 c4, .int .i64 f5, .slice A6 n6 c6]) (by repeat (first | exact List.mem_cons_self | refine List.mem_cons_of_mem _ ?_)) rfl
    have z3 := X.out.at_ (g := w.heap.size) (i := 3) (v := .int .i64 f3) (cs := [.int .i64 f0, .bool f1, .slice A2 n2 c2, .int .i64 f3, .slice A4 n4 c4, .int .i64 f5, .slice A6 n6 c6]) (by repeat (first | exact List.mem_cons_self | refine List.mem_cons_of_mem _ ?_)) rfl
    have z4 := X.out.at_ (g := w.heap.size) (i := 4) (v := .slice A4 n4 c4) (cs := [.int .i64 f0, .bool f1, .slice A2 n2 c2, .int .i64 f3, .slice A4 n4 c4, .int .i64 f5, .slice A6 n6 c6]) (by repeat (first | exact List.mem_cons_self | refine List.mem_cons_of_mem _ ?_)) rfl
    have z5 := X.out.at_ (g := w.heap.size) (i := 5) (v := .int .i64 f5) (cs := [.int .i64 f0, .bool f1, .slice A2 n2 c2, .int .i64 f3, .slice A4 n4 c4, .int .i64 f5, .slice A6 n6 c6]) (by repeat (first | exact List.mem_cons_self | refine List.mem_cons_of_mem _ ?_)) rfl
    have z6 := X.out.at_ (g := w.heap.size) (i := 6) (v := .slice A6 n6 c6) (cs := [.int .i64 f0, .bool f1, .slice A2 n2 c2, .int .i64 f3, .slice A4 n4 c4, .int .i64 f5, .slice A6 n6 c6]) (by repeat (first | exact List.mem_cons_self | refine List.mem_cons_of_mem _ ?_)) rfl
    go_wp2_with fail
    go_ret
    exact GivesInt.ret HV.out X.out.1
  · have hv := look_at (k := 0) (z := 0) h5 h2 h3
    have hli := h4
    rw [H.out.count] at hli
    have HI := Lib.hid h1
    have HD := Lib.hid h2
    have HV := Lib.hid hv
    clear h1 h2 h3 h4 h5 hv
    go_enter Try.func17, Try.ntmps17
    go_wp2_with fail
    refine (implPlE L2 A2 n2 c2 x _ (H.out.below X.out.1) HT.out hn2).mono ?_
    rintro e w1 ⟨rfl, hb⟩
    rw [HI.out]
    replace X := Lib.hid (X.out.below hb)
    clear hb
    obtain ⟨b, off, d', xs, rfl, hbw, hzi, hlie, hlen, hcell⟩ := (H.out.below X.out.1).elem (fun x hx => (HT.out x hx).width) hli
    obtain rfl : d = d' := by have h1 := HD.out; rw [hzi] at h1; exact (Option.some.inj h1).symm
    obtain ⟨f0', f1', f2', hd, rfl⟩ := invExport (HT.out d (List.mem_of_getElem? hzi)) hlie
    have r0 : w1.cell? ⟨b, off + i * 3, none⟩ = some (.int .i64 f0') := hcell 0 _ rfl
    have r1 : w1.cell? ⟨b, off + i * 3 + 1, none⟩ = some (.int .i64 f1') := hcell 1 _ rfl
    have HF : Hid (f0' = look (isF 1 x) 0 (0) L2) := Lib.hid (by rw [HV.out, hd]; rfl)
    clear hzi hlie hcell hd
    have z0 := X.out.at_ (g := w.heap.size) (i := 0) (v := .int .i64 f0) (cs := [.int .i64 f0, .bool f1, .slice (some ⟨b, off, none⟩) n2 c2, .int .i64 f3, .slice A4 n4 c4, .int .i64 f5, .slice A6 n6 c6]) (by repeat (first | exact List.mem_cons_self | refine List.mem_cons_of_mem _ ?_)) rfl
    have z1 := X.out.at_ (g := w.heap.size) (i := 1) (v := .bool f1) (cs := [.int .i64 f0, .bool f1, .slice (some ⟨b, off, none⟩) n2 c2, .int .i64 f3, .slice A4 n4 c4, .int .i64 f5, .slice A6 n6 c6]) (by repeat (first | exact List.mem_cons_self | refine List.mem_cons_of_mem _ ?_)) rfl
    have z2 := X.out.at_ (g := w.heap.size) (i := 2) (v := .slice (some ⟨b, off, none⟩) n2 c2) (cs := [.int .i64 f0, .bool f1, .slice (some ⟨b, off, none⟩) n2 c2, .int .i64 f3, .slice A4 n4 c4, .int .i64 f5, .slice A6 n6 c6]) (by repeat (first | exact List.mem_cons_self | refine List.mem_cons_of_mem _ ?_)) rfl
    have z3 := X.out.at_ (g := w.heap.size) (i := 3) (v := .int .i64 f3) (cs := [.int .i64 f0, .bool f1, .slice (some ⟨b, off, none⟩) n2 c2, .int .i64 f3, .slice A4 n4 c4, .int .i64 f5, .slice A6 n6 c6]) (by repeat (first | exact List.mem_cons_self | refine List.mem_cons_of_mem _ ?_)) rfl
    have z4 := X.out.at_ (g := w.heap.size) (i := 4) (v := .slice A4 n4 c4) (cs := [.int .i64 f0, .bool f1, .slice (some ⟨b, off, none⟩) n2 c2, .int .i64 f3, .slice A4 n4 c4, .int .i64 f5, .slice A6 n6 c6]) (by repeat (first | exact List.mem_cons_self | refine List.mem_cons_of_mem _ ?_)) rfl
    have z5 := X.out.at_ (g := w.heap.size) (i := 5) (v := .int .i64 f5) (cs := [.int .i64 f0, .bool f1, .slice (some ⟨b, off, none⟩) n2 c2, .int .i64 f3, .slice A4 n4 c4, .int .i64 f5, .slice A6 n6 c6]) (by repeat (first | exact List.mem_cons_self | refine List.mem_cons_of_mem _ ?_)) rfl
    have z6 := X.out.at_ (g := w.heap.size) (i := 6) (v := .slice A6 n6 c6) (cs := [.int .i64 f0, .bool f1, .slice (some ⟨b, off, none⟩) n2 c2, .int .i64 f3, .slice A4 n4 c4, .int .i64 f5, .slice A6 n6 c6]) (by repeat (first | exact List.mem_cons_self | refine List.mem_cons_of_mem _ ?_)) rfl
    have hlt0 : (decide ((i : Int) < 0)) = false := by (simp; try omega)
    go_wp2_with fail
    go_ret
    exact GivesInt.ret HF.out X.out.1
set_option maxHeartbeats 2000000 in
theorem specFind (f0 : Int) (f1 : Bool) (L2 : List Dat) (A2 : Option Addr) (n2 c2 : Nat) (f3 : Int) (L4 : List Dat) (A4 : Option Addr) (n4 c4 : Nat) (f5 : Int) (L6 : List Dat) (A6 : Option Addr) (n6 c6 : Nat) (x : Int) (w : World) (hl2 : Lies w (.l L2) [.slice A2 n2 c2]) (ht2 : ∀ x ∈ L2, Has tyExport x) (hn2 : n2 ≤ 1099511627776) :
    Calls Try.prog 30 #[.agg #[.int .i64 f0, .bool f1, .slice A2 n2 c2, .int .i64 f3, .slice A4 n4 c4, .int .i64 f5, .slice A6 n6 c6], .int .i64 x] w (GivesInt (look (isF 0 x) 1 (-1) L2) w) := by
  have X := Lib.hid ((Held.start w).push #[.int .i64 f0, .bool f1, .slice A2 n2 c2, .int .i64 f3, .slice A4 n4 c4, .int .i64 f5, .slice A6 n6 c6] 27)
  have H := Lib.hid hl2
  have HT := Lib.hid ht2
  clear hl2 ht2
  go_enter Try.func30, Try.ntmps30
  go_wp2_with fail
  go_loopw [5] (fun iv wr => ∃ i : Nat, i ≤ n2 ∧ iv = .int .i64 i ∧ (∀ (j : Nat) (e : Dat), j < i → L2[j]? = some e → isF 0 x e = false) ∧ Held w [(w.heap.size, [.int .i64 f0, .bool f1, .slice A2 n2 c2, .int .i64 f3, .slice A4 n4 c4, .int .i64 f5, .slice A6 n6 c6])] wr) (fun iv _ => n2 - (intOf iv).toNat)
  case atStart => exact ⟨0, Nat.zero_le _, rfl, fun j e hj => by omega, X.out⟩
  case round =>
    obtain ⟨i, hin, rfl, hno, hX⟩ := hrel
    have HNO := Lib.hid hno
    clear X
    have X := Lib.hid hX
    clear hno hX
    by_cases hlt : i < n2
    · obtain ⟨b', off, d, xs, rfl, hbw, hzi, hlie, hlen, hcell⟩ := (H.out.below X.out.1).elem (fun x hx => (HT.out x hx).width) hlt
      obtain ⟨a, b, c, hd, rfl⟩ := invExport (HT.out d (List.mem_of_getElem? hzi)) hlie
      have r0 : wr.cell? ⟨b', off + i * 3, none⟩ = some (.int .i64 a) := hcell 0 _ rfl
      have r1 : wr.cell? ⟨b', off + i * 3 + 1, none⟩ = some (.int .i64 b) := hcell 1 _ rfl
      have r2 : wr.cell? ⟨b', off + i * 3 + 2, none⟩ = some (.int .i64 c) := hcell 2 _ rfl
      have HZ := Lib.hid hzi
      have HD := Lib.hid hd
      clear hzi hcell hlie hd
      have z0 := X.out.at_ (g := w.heap.size) (i := 0) (v := .int .i64 f0) (cs := [.int .i64 f0, .bool f1, .slice (some ⟨b', off, none⟩) n2 c2, .int .i64 f3, .slice A4 n4 c4, .int .i64 f5, .slice A6 n6 c6]) (by repeat (first | exact List.mem_cons_self | refine List.mem_cons_of_mem _ ?_)) rfl
      have z1 := X.out.at_ (g := w.heap.size) (i := 1) (v := .bool f1) (cs := [.int .i64 f0, .bool f1, .slice (some ⟨b', off, none⟩) n2 c2, .int .i64 f3, .slice A4 n4 c4, .int .i64 f5, .slice A6 n6 c6]) (by repeat (first | exact List.mem_cons_self | refine List.mem_cons_of_mem _ ?_)) rfl
      have z2 := X.out.at_ (g := w.heap.size) (i := 2) (v := .slice (some ⟨b', off, none⟩) n2 c2) (cs := [.int .i64 f0, .bool f1, .slice (some ⟨b', off, none⟩) n2 c2, .int .i64 f3, .slice A4 n4 c4, .int .i64 f5, .slice A6 n6 c6]) (by repeat (first | exact List.mem_cons_self | refine List.mem_cons_of_mem _ ?_)) rfl
      have z3 := X.out.at_ (g := w.heap.size) (i := 3) (v := .int .i64 f3) (cs := [.int .i64 f0, .bool f1, .slice (some ⟨b', off, none⟩) n2 c2, .int .i64 f3, .slice A4 n4 c4, .int .i64 f5, .slice A6 n6 c6]) (by repeat (first | exact List.mem_cons_self | refine List.mem_cons_of_mem _ ?_)) rfl
      have z4 := X.out.at_ (g := w.heap.size) (i := 4) (v := .slice A4 n4 c4) (cs := [.int .i64 f0, .bool f1, .slice (some ⟨b', off, none⟩) n2 c2, .int .i64 f3, .slice A4 n4 c4, .int .i64 f5, .slice A6 n6 c6]) (by repeat (first | exact List.mem_cons_self | refine List.mem_cons_of_mem _ ?_)) rfl
      have z5 := X.out.at_ (g := w.heap.size) (i := 5) (v := .int .i64 f5) (cs := [.int .i64 f0, .bool f1, .slice (some ⟨b', off, none⟩) n2 c2, .int .i64 f3, .slice A4 n4 c4, .int .i64 f5, .slice A6 n6 c6]) (by repeat (first | exact List.mem_cons_self | refine List.mem_cons_of_mem _ ?_)) rfl
      have z6 := X.out.at_ (g := w.heap.size) (i := 6) (v := .slice A6 n6 c6) (cs := [.int .i64 f0, .bool f1, .slice (some ⟨b', off, none⟩) n2 c2, .int .i64 f3, .slice A4 n4 c4, .int .i64 f5, .slice A6 n6 c6]) (by repeat (first | exact List.mem_cons_self | refine List.mem_cons_of_mem _ ?_)) rfl
      by_cases e : a = x
      · have HF : Hid (b = look (isF 0 x) 1 (-1) L2) := Lib.hid (by rw [look_at HNO.out HZ.out (isF_t (by rw [HD.out]; exact e)), HD.out]; rfl)
        have hb : (a == x) = true := by simpa using e
        clear e
        go_wp2_with fail
        go_ret
        exact GivesInt.ret HF.out X.out.1
      · have HN := Lib.hid (no_next HNO.out HZ.out (isF_f (by rw [HD.out]; exact e) : isF 0 x d = false))
        have hb : (a == x) = false := by simpa using e
        clear e
        go_wp2_with fail
        go_roundw
        case rel => exact ⟨i + 1, by omega, by go_num, HN.out, X.out⟩
        case measure => (simp [intOf]; try omega)
    · obtain rfl : i = n2 := by omega
      have HF := Lib.hid (look_none' (k := 1) (z := -1) H.out.count HNO.out).symm
      have z0 := X.out.at_ (g := w.heap.size) (i := 0) (v := .int .i64 f0) (cs := [.int .i64 f0, .bool f1, .slice A2 i c2, .int .i64 f3, .slice A4 n4 c4, .int .i64 f5, .slice A6 n6 c6]) (by repeat (first | exact List.mem_cons_self | refine List.mem_cons_of_mem _ ?_)) rfl
      have z1 := X.out.at_ (g := w.heap.size) (i := 1) (v := .bool f1) (cs := [.int .i64 f0, .bool f1, .slice A2 i c2, .int .i64 f3, .slice A4 n4 c4, .int .i64 f5, .slice A6 n6 c6]) (by repeat (first | exact List.mem_cons_self | refine List.mem_cons_of_mem _ ?_)) rfl
      have z2 := X.out.at_ (g := w.heap.size) (i := 2) (v := .slice A2 i c2) (cs := [.int .i64 f0, .bool f1, .slice A2 i c2, .int .i64 f3, .slice A4 n4 c4, .int .i64 f5, .slice A6 n6 c6]) (by repeat (first | exact List.mem_cons_self | refine List.mem_cons_of_mem _ ?_)) rfl
      have z3 := X.out.at_ (g := w.heap.size) (i := 3) (v := .int .i64 f3) (cs := [.int .i64 f0, .bool f1, .slice A2 i c2, .int .i64 f3, .slice A4 n4 c4, .int .i64 f5, .slice A6 n6 c6]) (by repeat (first | exact List.mem_cons_self | refine List.mem_cons_of_mem _ ?_)) rfl
      have z4 := X.out.at_ (g := w.heap.size) (i := 4) (v := .slice A4 n4 c4) (cs := [.int .i64 f0, .bool f1, .slice A2 i c2, .int .i64 f3, .slice A4 n4 c4, .int .i64 f5, .slice A6 n6 c6]) (by repeat (first | exact List.mem_cons_self | refine List.mem_cons_of_mem _ ?_)) rfl
      have z5 := X.out.at_ (g := w.heap.size) (i := 5) (v := .int .i64 f5) (cs := [.int .i64 f0, .bool f1, .slice A2 i c2, .int .i64 f3, .slice A4 n4 c4, .int .i64 f5, .slice A6 n6 c6]) (by repeat (first | exact List.mem_cons_self | refine List.mem_cons_of_mem _ ?_)) rfl
      have z6 := X.out.at_ (g := w.heap.size) (i := 6) (v := .slice A6 n6 c6) (cs := [.int .i64 f0, .bool f1, .slice A2 i c2, .int .i64 f3, .slice A4 n4 c4, .int .i64 f5, .slice A6 n6 c6]) (by repeat (first | exact List.mem_cons_self | refine List.mem_cons_of_mem _ ?_)) rfl
      go_wp2_with fail
      go_ret
      exact GivesInt.ret HF.out X.out.1
set_option maxHeartbeats 2000000 in
theorem specPosOf (f0 : Int) (f1 : Bool) (L2 : List Dat) (A2 : Option Addr) (n2 c2 : Nat) (f3 : Int) (L4 : List Dat) (A4 : Option Addr) (n4 c4 : Nat) (f5 : Int) (L6 : List Dat) (A6 : Option Addr) (n6 c6 : Nat) (x : Int) (w : World) (hl2 : Lies w (.l L2) [.slice A2 n2 c2]) (ht2 : ∀ x ∈ L2, Has tyExport x) (hn2 : n2 ≤ 1099511627776) :
    Calls Try.prog 20 #[.agg #[.int .i64 f0, .bool f1, .slice A2 n2 c2, .int .i64 f3, .slice A4 n4 c4, .int .i64 f5, .slice A6 n6 c6], .int .i64 x] w (GivesInt (look (isF 1 x) 0 (0) L2) w) := by
  have X := Lib.hid ((Held.start w).push #[.int .i64 f0, .bool f1, .slice A2 n2 c2, .int .i64 f3, .slice A4 n4 c4, .int .i64 f5, .slice A6 n6 c6] 27)
  have H := Lib.hid hl2
  have HT := Lib.hid ht2
  clear hl2 ht2
  go_enter Try.func20, Try.ntmps20
  go_wp2_with fail
  go_loopw [5] (fun iv wr => ∃ i : Nat, i ≤ n2 ∧ iv = .int .i64 i ∧ (∀ (j : Nat) (e : Dat), j < i → L2[j]? = some e → isF 1 x e = false) ∧ Held w [(w.heap.size, [.int .i64 f0, .bool f1, .slice A2 n2 c2, .int .i64 f3, .slice A4 n4 c4, .int .i64 f5, .slice A6 n6 c6])] wr) (fun iv _ => n2 - (intOf iv).toNat)
  case atStart => exact ⟨0, Nat.zero_le _, rfl, fun j e hj => by omega, X.out⟩
  case round =>
    obtain ⟨i, hin, rfl, hno, hX⟩ := hrel
    have HNO := Lib.hid hno
    clear X
    have X := Lib.hid hX
    clear hno hX
    by_cases hlt : i < n2
    · obtain ⟨b', off, d, xs, rfl, hbw, hzi, hlie, hlen, hcell⟩ := (H.out.below X.out.1).elem (fun x hx => (HT.out x hx).width) hlt
      obtain ⟨a, b, c, hd, rfl⟩ := invExport (HT.out d (List.mem_of_getElem? hzi)) hlie
      have r0 : wr.cell? ⟨b', off + i * 3, none⟩ = some (.int .i64 a) := hcell 0 _ rfl
      have r1 : wr.cell? ⟨b', off + i * 3 + 1, none⟩ = some (.int .i64 b) := hcell 1 _ rfl
      have r2 : wr.cell? ⟨b', off + i * 3 + 2, none⟩ = some (.int .i64 c) := hcell 2 _ rfl
      have HZ := Lib.hid hzi
      have HD := Lib.hid hd
      clear hzi hcell hlie hd
      have z0 := X.out.at_ (g := w.heap.size) (i := 0) (v := .int .i64 f0) (cs := [.int .i64 f0, .bool f1, .slice (some ⟨b', off, none⟩) n2 c2, .int .i64 f3, .slice A4 n4 c4, .int .i64 f5, .slice A6 n6 c6]) (by repeat (first | exact List.mem_cons_self | refine List.mem_cons_of_mem _ ?_)) rfl
      have z1 := X.out.at_ (g := w.heap.size) (i := 1) (v := .bool f1) (cs := [.int .i64 f0, .bool f1, .slice (some ⟨b', off, none⟩) n2 c2, .int .i64 f3, .slice A4 n4 c4, .int .i64 f5, .slice A6 n6 c6]) (by repeat (first | exact List.mem_cons_self | refine List.mem_cons_of_mem _ ?_)) rfl
      have z2 := X.out.at_ (g := w.heap.size) (i := 2) (v := .slice (some ⟨b', off, none⟩) n2 c2) (cs := [.int .i64 f0, .bool f1, .slice (some ⟨b', off, none⟩) n2 c2, .int .i64 f3, .slice A4 n4 c4, .int .i64 f5, .slice A6 n6 c6]) (by repeat (first | exact List.mem_cons_self | refine List.mem_cons_of_mem _ ?_)) rfl
      have z3 := X.out.at_ (g := w.heap.size) (i := 3) (v := .int .i64 f3) (cs := [.int .i64 f0, .bool f1, .slice (some ⟨b', off, none⟩) n2 c2, .int .i64 f3, .slice A4 n4 c4, .int .i64 f5, .slice A6 n6 c6]) (by repeat (first | exact List.mem_cons_self | refine List.mem_cons_of_mem _ ?_)) rfl
      have z4 := X.out.at_ (g := w.heap.size) (i := 4) (v := .slice A4 n4 c4) (cs := [.int .i64 f0, .bool f1, .slice (some ⟨b', off, none⟩) n2 c2, .int .i64 f3, .slice A4 n4 c4, .int .i64 f5, .slice A6 n6 c6]) (by repeat (first | exact List.mem_cons_self | refine List.mem_cons_of_mem _ ?_)) rfl
      have z5 := X.out.at_ (g := w.heap.size) (i := 5) (v := .int .i64 f5) (cs := [.int .i64 f0, .bool f1, .slice (some ⟨b', off, none⟩) n2 c2, .int .i64 f3, .slice A4 n4 c4, .int .i64 f5, .slice A6 n6 c6]) (by repeat (first | exact List.mem_cons_self | refine List.mem_cons_of_mem _ ?_)) rfl
      have z6 := X.out.at_ (g := w.heap.size) (i := 6) (v := .slice A6 n6 c6) (cs := [.int .i64 f0, .bool f1, .slice (some ⟨b', off, none⟩) n2 c2, .int .i64 f3, .slice A4 n4 c4, .int .i64 f5, .slice A6 n6 c6]) (by repeat (first | exact List.mem_cons_self | refine List.mem_cons_of_mem _ ?_)) rfl
      by_cases e : b = x
      · have HF : Hid (a = look (isF 1 x) 0 (0) L2) := Lib.hid (by rw [look_at HNO.out HZ.out (isF_t (by rw [HD.out]; exact e)), HD.out]; rfl)
        have hb : (b == x) = true := by simpa using e
        clear e
        go_wp2_with fail
        go_ret
        exact GivesInt.ret HF.out X.out.1
      · have HN := Lib.hid (no_next HNO.out HZ.out (isF_f (by rw [HD.out]; exact e) : isF 1 x d = false))
        have hb : (b == x) = false := by simpa using e
        clear e
        go_wp2_with fail
        go_roundw
        case rel => exact ⟨i + 1, by omega, by go_num, HN.out, X.out⟩
        case measure => (simp [intOf]; try omega)
    · obtain rfl : i = n2 := by omega
      have HF := Lib.hid (look_none' (k := 0) (z := 0) H.out.count HNO.out).symm
      have z0 := X.out.at_ (g := w.heap.size) (i := 0) (v := .int .i64 f0) (cs := [.int .i64 f0, .bool f1, .slice A2 i c2, .int .i64 f3, .slice A4 n4 c4, .int .i64 f5, .slice A6 n6 c6]) (by repeat (first | exact List.mem_cons_self | refine List.mem_cons_of_mem _ ?_)) rfl
      have z1 := X.out.at_ (g := w.heap.size) (i := 1) (v := .bool f1) (cs := [.int .i64 f0, .bool f1, .slice A2 i c2, .int .i64 f3, .slice A4 n4 c4, .int .i64 f5, .slice A6 n6 c6]) (by repeat (first | exact List.mem_cons_self | refine List.mem_cons_of_mem _ ?_)) rfl
      have z2 := X.out.at_ (g := w.heap.size) (i := 2) (v := .slice A2 i c2) (cs := [.int .i64 f0, .bool f1, .slice A2 i c2, .int .i64 f3, .slice A4 n4 c4, .int .i64 f5, .slice A6 n6 c6]) (by repeat (first | exact List.mem_cons_self | refine List.mem_cons_of_mem _ ?_)) rfl
      have z3 := X.out.at_ (g := w.heap.size) (i := 3) (v := .int .i64 f3) (cs := [.int .i64 f0, .bool f1, .slice A2 i c2, .int .i64 f3, .slice A4 n4 c4, .int .i64 f5, .slice A6 n6 c6]) (by repeat (first | exact List.mem_cons_self | refine List.mem_cons_of_mem _ ?_)) rfl
      have z4 := X.out.at_ (g := w.heap.size) (i := 4) (v := .slice A4 n4 c4) (cs := [.int .i64 f0, .bool f1, .slice A2 i c2, .int .i64 f3, .slice A4 n4 c4, .int .i64 f5, .slice A6 n6 c6]) (by repeat (first | exact List.mem_cons_self | refine List.mem_cons_of_mem _ ?_)) rfl
      have z5 := X.out.at_ (g := w.heap.size) (i := 5) (v := .int .i64 f5) (cs := [.int .i64 f0, .bool f1, .slice A2 i c2, .int .i64 f3, .slice A4 n4 c4, .int .i64 f5, .slice A6 n6 c6]) (by repeat (first | exact List.mem_cons_self | refine List.mem_cons_of_mem _ ?_)) rfl
      have z6 := X.out.at_ (g := w.heap.size) (i := 6) (v := .slice A6 n6 c6) (cs := [.int .i64 f0, .bool f1, .slice A2 i c2, .int .i64 f3, .slice A4 n4 c4, .int .i64 f5, .slice A6 n6 c6]) (by repeat (first | exact List.mem_cons_self | refine List.mem_cons_of_mem _ ?_)) rfl
      go_wp2_with fail
      go_ret
      exact GivesInt.ret HF.out X.out.1
set_option maxHeartbeats 2000000 in
theorem implFindQ (L2 : List Dat) (A2 : Option Addr) (n2 c2 : Nat) (x : Int) (w : World) (hl2 : Lies w (.l L2) [.slice A2 n2 c2]) (ht2 : ∀ x ∈ L2, Has tyQuestion x) (hn2 : n2 ≤ 1099511627776) :
    Calls Try.prog 23 #[.slice A2 n2 c2, .int .i64 x] w (GivesInt (look (isF 0 x) 1 (-1) L2) w) := by
  have X := Lib.hid (Held.start w)
  have H := Lib.hid hl2
  have HT := Lib.hid ht2
  clear hl2 ht2
  go_enter Try.func23, Try.ntmps23
  go_wp2_with fail
  go_loopw [9] (fun iv wr => ∃ i : Nat, i ≤ n2 ∧ iv = .int .i64 i ∧ (∀ (j : Nat) (e : Dat), j < i → L2[j]? = some e → isF 0 x e = false) ∧ Held w [] wr) (fun iv _ => n2 - (intOf iv).toNat)
  case atStart => exact ⟨0, Nat.zero_le _, rfl, fun j e hj => by omega, X.out⟩
  case round =>
    obtain ⟨i, hin, rfl, hno, hX⟩ := hrel
    have HNO := Lib.hid hno
    clear X
    have X := Lib.hid hX
    clear hno hX
    by_cases hlt : i < n2
    · obtain ⟨b', off, d, xs, rfl, hbw, hzi, hlie, hlen, hcell⟩ := (H.out.below X.out.1).elem (fun x hx => (HT.out x hx).width) hlt
      obtain ⟨a, b, hd, rfl⟩ := invQuestion (HT.out d (List.mem_of_getElem? hzi)) hlie
      have r0 : wr.cell? ⟨b', off + i * 2, none⟩ = some (.int .i64 a) := hcell 0 _ rfl
      have r1 : wr.cell? ⟨b', off + i * 2 + 1, none⟩ = some (.int .i64 b) := hcell 1 _ rfl
      have HZ := Lib.hid hzi
      have HD := Lib.hid hd
      clear hzi hcell hlie hd

      by_cases e : a = x
      · have HF : Hid (b = look (isF 0 x) 1 (-1) L2) := Lib.hid (by rw [look_at HNO.out HZ.out (isF_t (by rw [HD.out]; exact e)), HD.out]; rfl)
        have hb : (a == x) = true := by simpa using e
        clear e
        go_wp2_with fail
        go_ret
        exact GivesInt.ret HF.out (by have h1 := X.out.1; first | exact h1 | exact h1.alloc h1.size _)
      · have HN := Lib.hid (no_next HNO.out HZ.out (isF_f (by rw [HD.out]; exact e) : isF 0 x d = false))
        have hb : (a == x) = false := by simpa using e
        clear e
        go_wp2_with fail
        go_roundw
        case rel => exact ⟨i + 1, by omega, by go_num, HN.out, X.out.below (by first | exact Below.refl _ _ | exact (Below.refl _ _).alloc (Nat.le_refl _) _)⟩
        case measure => (simp [intOf]; try omega)
    · obtain rfl : i = n2 := by omega
      have HF := Lib.hid (look_none' (k := 1) (z := -1) H.out.count HNO.out).symm

      go_wp2_with fail
      go_ret
      exact GivesInt.ret HF.out X.out.1
set_option maxHeartbeats 2000000 in
theorem specFindQ (L2 : List Dat) (A2 : Option Addr) (n2 c2 : Nat) (x : Int) (w : World) (hl2 : Lies w (.l L2) [.slice A2 n2 c2]) (ht2 : ∀ x ∈ L2, Has tyQuestion x) (hn2 : n2 ≤ 1099511627776) :
    Calls Try.prog 36 #[.slice A2 n2 c2, .int .i64 x] w (GivesInt (look (isF 0 x) 1 (-1) L2) w) := by
  have X := Lib.hid (Held.start w)
  have H := Lib.hid hl2
  have HT := Lib.hid ht2
  clear hl2 ht2
  go_enter Try.func36, Try.ntmps36
  go_wp2_with fail
  go_loopw [5] (fun iv wr => ∃ i : Nat, i ≤ n2 ∧ iv = .int .i64 i ∧ (∀ (j : Nat) (e : Dat), j < i → L2[j]? = some e → isF 0 x e = false) ∧ Held w [] wr) (fun iv _ => n2 - (intOf iv).toNat)
  case atStart => exact ⟨0, Nat.zero_le _, rfl, fun j e hj => by omega, X.out⟩
  case round =>
    obtain ⟨i, hin, rfl, hno, hX⟩ := hrel
    have HNO := Lib.hid hno
    clear X
    have X := Lib.hid hX
    clear hno hX
    by_cases hlt : i < n2
    · obtain ⟨b', off, d, xs, rfl, hbw, hzi, hlie, hlen, hcell⟩ := (H.out.below X.out.1).elem (fun x hx => (HT.out x hx).width) hlt
      obtain ⟨a, b, hd, rfl⟩ := invQuestion (HT.out d (List.mem_of_getElem? hzi)) hlie
      have r0 : wr.cell? ⟨b', off + i * 2, none⟩ = some (.int .i64 a) := hcell 0 _ rfl
      have r1 : wr.cell? ⟨b', off + i * 2 + 1, none⟩ = some (.int .i64 b) := hcell 1 _ rfl
      have HZ := Lib.hid hzi
      have HD := Lib.hid hd
      clear hzi hcell hlie hd

      by_cases e : a = x
      · have HF : Hid (b = look (isF 0 x) 1 (-1) L2) := Lib.hid (by rw [look_at HNO.out HZ.out (isF_t (by rw [HD.out]; exact e)), HD.out]; rfl)
        have hb : (a == x) = true := by simpa using e
        clear e
        go_wp2_with fail
        go_ret
        exact GivesInt.ret HF.out (by have h1 := X.out.1; first | exact h1 | exact h1.alloc h1.size _)
      · have HN := Lib.hid (no_next HNO.out HZ.out (isF_f (by rw [HD.out]; exact e) : isF 0 x d = false))
        have hb : (a == x) = false := by simpa using e
        clear e
        go_wp2_with fail
        go_roundw
        case rel => exact ⟨i + 1, by omega, by go_num, HN.out, X.out.below (by first | exact Below.refl _ _ | exact (Below.refl _ _).alloc (Nat.le_refl _) _)⟩
        case measure => (simp [intOf]; try omega)
    · obtain rfl : i = n2 := by omega
      have HF := Lib.hid (look_none' (k := 1) (z := -1) H.out.count HNO.out).symm

      go_wp2_with fail
      go_ret
      exact GivesInt.ret HF.out X.out.1
end Go.Proofs.Ytdedioghljkflaa
