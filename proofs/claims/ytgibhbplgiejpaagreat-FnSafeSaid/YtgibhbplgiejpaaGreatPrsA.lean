/- A text cut at a byte, both sides: the words lie in a slice.
   Words read: an operation, a number, both sides.
   The program's ParseInstr.
   The program's ParseInstr. -/
import Derived.Test.YtgibhbplgiejpaaGreatData
import Derived.Test.YtgibhbplgiejpaaGreatTxtA
import Derived.Test.YtgibhbplgiejpaaGreatBase
import Derived.Test.YtgibhbplgiejpaaGreatInsL
import Derived.Lib.OthersKept
import Derived.Lib.DecodeN
import Derived.Laws.RangeAny
import Derived.WalkSmall
import Derived.LoopTactic
import Derived.Lib.Hide
import Derived.Handy
import Derived.Test.YtgibhbplgiejpaaGreatFmtA
import Derived.Test.YtgibhbplgiejpaaGreatNumA
import Derived.Deep.RegionHeld3
namespace Go.Proofs.YtgibhbplgiejpaaGreat
open Go.RowKit Go.Lib
set_option linter.unusedVariables false
set_option linter.unusedSimpArgs false
/-! ### Plain -/
theorem extract_strB (s : ByteArray) (a b : Nat) : s.extract a b = strB ((s.data.toList.drop a).take (b - a)) := by
  apply bytes_eq
  show (s.extract a b).data.toList = _
  rw [ByteArray.data_extract, Array.toList_extract]
  rw [List.extract_eq_take_drop]
  rfl
/-- Behind the parts P the last one began at f; up to i it holds no separator. -/
structure Seg (sep : UInt8) (l : List UInt8) (P : List (List UInt8)) (f i : Nat) : Prop where
  le : f ≤ i
  few : P.length ≤ f
  eq : splitB sep l = P ++ splitB sep (l.drop f)
  no : sep ∉ (l.drop f).take (i - f)
section
variable {sep : UInt8} {l : List UInt8} {P : List (List UInt8)} {f i : Nat}
theorem Seg.start (sep : UInt8) (l : List UInt8) : Seg sep l [] 0 0 := ⟨Nat.le_refl _, Nat.le_refl _, by simp, by simp⟩
theorem Seg.skip (h : Seg sep l P f i) {c : UInt8} (hc : l[i]? = some c) (hne : c ≠ sep) : Seg sep l P f (i + 1) := by
  refine ⟨Nat.le_succ_of_le h.le, h.few, h.eq, ?_⟩
  have hle := h.le
  rw [show i + 1 - f = i - f + 1 by omega, List.take_add_one, List.getElem?_drop, show f + (i - f) = i by omega, hc]
  intro hm
  rcases List.mem_append.1 hm with hm | hm
  · exact h.no hm
  · exact hne (Option.some.inj (Option.mem_toList.1 hm))
theorem Seg.far (h : Seg sep l P f i) : ∀ n : Nat, (∀ j c, i ≤ j → j < i + n → l[j]? = some c → c ≠ sep) → i + n ≤ l.length → Seg sep l P f (i + n)
  | 0, _, _ => h
  | n + 1, hno, hl => by
    have h1 := Seg.far h n (fun j c h1 h2 => hno j c h1 (by omega)) (by omega)
    have hx : l[i + n]? = some (l[i + n]'(by omega)) := List.getElem?_eq_getElem (by omega)
    exact h1.skip hx (hno _ _ (by omega) (by omega) hx)
theorem Seg.cut (h : Seg sep l P f i) (hc : l[i]? = some sep) : Seg sep l (P ++ [(l.drop f).take (i - f)]) (i + 1) (i + 1) := by
  have hle := h.le
  have hi := (List.getElem?_eq_some_iff.1 hc).1
  refine ⟨Nat.le_refl _, by have := h.few; simp; omega, ?_, by simp⟩
  have e : l.drop f = (l.drop f).take (i - f) ++ sep :: l.drop (i + 1) := by
    have h1 := (List.take_append_drop (i - f) (l.drop f)).symm
    rw [List.drop_drop, show f + (i - f) = i by omega] at h1
    have h2 : l.drop i = sep :: l.drop (i + 1) := by
      rw [← (List.getElem?_eq_some_iff.1 hc).2, List.getElem_cons_drop]
    rw [h2] at h1
    exact h1
  rw [h.eq]
  conv => lhs; rw [e, split_cons h.no]
  rw [List.append_assoc]
  rfl
theorem Seg.last (h : Seg sep l P f i) (hi : l.length ≤ i) : splitB sep l = P ++ [l.drop f] := by
  rw [h.eq]
  have hn := h.no
  rw [List.take_of_length_le (by rw [List.length_drop]; omega)] at hn
  rw [split_last hn]
end
/-! ### Words in memory -/
def strE : Elt ByteArray where
  dat s := .s s
  own w s cs B := cs = [.string s]
  k := 1
  pos := by decide
  toOwns := fun h => by rw [Owns]; exact h
  width := fun _ => rfl
  same := fun h _ => h
  mono := fun h _ => h
/-- The slice reads as these words. -/
def Words (w : World) (A : Option Addr) (n : Nat) (ws : List (List UInt8)) : Prop := ws.length = n ∧ Rd w w.heap.size A (ws.map fun x => Value.string (strB x))
section
variable {w w' : World} {A : Option Addr} {n : Nat} {ws : List (List UInt8)}
theorem Words.below (h : Words w A n ws) (hb : Below w.heap.size w w') : Words w' A n ws := ⟨h.1, (h.2.below hb).more hb.size⟩
theorem Words.at_ (h : Words w A n ws) {i : Nat} (hi : i < n) : ∃ b off x, A = some ⟨b, off, none⟩ ∧ b < w.heap.size ∧ ws[i]? = some x ∧ w.cell? ⟨b, off + i, none⟩ = some (.string (strB x)) := by
  have hl : i < ws.length := by rw [h.1]; exact hi
  obtain ⟨b, off, e, hb, hc⟩ := h.2.at_ (k := i) (by simpa using hl)
  exact ⟨b, off, ws[i], e, hb, List.getElem?_eq_getElem hl, by simpa using hc⟩
theorem LiesAll.strs {w : World} : ∀ {ss : List ByteArray} {xs : List Value}, LiesAll w (ss.map fun s => Dat.s s) xs → xs = ss.map Value.string
  | [], xs, h => by rw [List.map_nil, LiesAll] at h; exact h
  | s :: ss, xs, h => by
    rw [List.map_cons, LiesAll] at h
    obtain ⟨c1, c2, rfl, h1, h2⟩ := h
    rw [Lies] at h1
    rw [h1, LiesAll.strs h2]
    rfl
theorem GrowP.words {E : TypeId} {lo c : Nat} {B : Nat → Prop} (h : GrowP strE E lo w A n c (ws.map strB) B) : Words w A n ws := by
  have hn := h.count
  rw [List.length_map] at hn
  refine ⟨hn, ?_⟩
  have h1 := h.owns.lies
  rw [Lies] at h1
  obtain ⟨A', n', c', e, -, h1⟩ := h1
  simp only [List.cons.injEq, Value.slice.injEq, and_true] at e
  obtain ⟨rfl, rfl, rfl⟩ := e
  rcases h1 with h1 | ⟨b, off, xs, e, ⟨hlt, hnc⟩, hx, hc⟩
  · left
    have h2 : ws = [] := by simpa using h1
    rw [h2]; rfl
  · right
    refine ⟨b, off, e, hlt, ?_⟩
    have h2 := LiesAll.strs (ss := ws.map strB) hx
    rw [h2, List.map_map] at hc
    exact hc
end
/-- A new slice of words comes back. -/
def GivesW (ws : List (List UInt8)) (w : World) (e : Ending) (w' : World) : Prop := ∃ A n c, e = .returned (.slice A n c) ∧ Words w' A n ws ∧ Below w.heap.size w w'
theorem GivesW.ret {ws : List (List UInt8)} {w w' : World} {E : TypeId} {lo c n : Nat} {A : Option Addr} {B : Nat → Prop} {P : List (List UInt8)} (h : GrowP strE E lo w' A n c (P.map strB) B) (hP : P = ws) (hb : Below w.heap.size w w') : GivesW ws w (.returned (.slice A n c)) w' := by
  subst hP
  exact ⟨A, n, c, rfl, h.words, hb⟩
theorem infoStr : (Tryz.prog.info? 9).map (fun i => (i.zero, i.size, i.bytes)) = some (some (.string ⟨#[]⟩), 1, 16) := by kernel_rfl
/-- What is collected so far. -/
def Coll (w : World) (A : Option Addr) (n c : Nat) (P : List (List UInt8)) (wr : World) : Prop := GrowP strE 9 w.heap.size wr A n c (P.map strB) (fun b => w.heap.size ≤ b ∧ b < wr.heap.size) ∧ Below w.heap.size w wr
theorem Coll.drew {w wr : World} {A : Option Addr} {n c : Nat} {P : List (List UInt8)} (h : Coll w A n c P wr) : Coll w A n c P wr.drew := ⟨h.1.drew, h.2.drew⟩
theorem Coll.next {w wr o w3 : World} {A A3 : Option Addr} {n c c3 : Nat} {P : List (List UInt8)} {x : ByteArray} {p : List UInt8} (h : Coll w A n c P wr) (hx : x = strB p) (hb : Below w.heap.size w o)
    (hG : GrowP strE 9 w.heap.size w3 A3 (n + 1) c3 (P.map strB ++ [x]) (fun b => (w.heap.size ≤ b ∧ b < wr.heap.size) ∨ (o.heap.size ≤ b ∧ b < w3.heap.size))) (ht : Touch (fun b => w.heap.size ≤ b ∧ b < wr.heap.size) o w3) (hs : wr.heap.size ≤ o.heap.size) : Coll w A3 (n + 1) c3 (P ++ [p]) w3 := by
  subst hx
  refine ⟨?_, hb.trans (ht.below (fun b hb => hb.1) hb.size)⟩
  rw [List.map_append]
  refine hG.mono (fun b hb2 => ?_)
  have h1 := ht.size
  have h2 := hb.size
  rcases hb2 with hb2 | hb2
  · exact ⟨hb2.1, by omega⟩
  · exact ⟨by omega, hb2.2⟩
theorem Rd.lit1 (w : World) (v : Value) (E : TypeId) : Rd (w.alloc (.cells #[v] E)) (w.alloc (.cells #[v] E)).heap.size (some ⟨w.heap.size, 0, none⟩) [v] := by
  refine Or.inr ⟨w.heap.size, 0, rfl, by simp, fun j u hj => ?_⟩
  rw [Nat.zero_add, cell_of_row _ w.heap.size j #[v] E (0, 0) (by show (w.heap.push _)[w.heap.size]? = _; simp)]
  simpa using hj
theorem at_byte (s : ByteArray) {i : Nat} (h : i < s.size) : s.data.toList[i]? = some (s[i]'h) := by
  rw [List.getElem?_eq_getElem (by exact h)]
  rfl
theorem part_last (s : ByteArray) (f : Nat) : s.extract f s.size = strB (s.data.toList.drop f) := by
  rw [extract_strB]
  have e : (s.data.toList.drop f).length ≤ s.size - f := by rw [List.length_drop]; exact Nat.le_refl _
  rw [List.take_of_length_le e]
set_option maxRecDepth 100000 in
set_option maxHeartbeats 4000000 in
theorem specSplit (s : ByteArray) (by_ : UInt8) (w : World) (hs : s.size ≤ 1099511627776) : Calls Tryz.prog 96 #[.string s, .int .u8 by_.toNat] w (GivesW (splitB by_ s.data.toList) w) := by
  obtain ⟨i0, hi, hz0, hz1, hz2⟩ := info_parts infoStr
  have hsl : s.data.toList.length = s.size := rfl
  have C0 : Hid (Coll w (some ⟨w.heap.size, 0, none⟩) 0 0 [] (w.alloc (.cells #[] 9))) := Lib.hid ⟨GrowP.lit0 strE _ w.heap.size w (Nat.le_refl _) _ ⟨Nat.le_refl _, by simp⟩, (Below.refl _ _).alloc (Nat.le_refl _) _⟩
  have HSL := Lib.hid hsl
  clear hsl
  go_enter Tryz.func96, Tryz.ntmps96
  go_wp2_with fail
  go_loopw [5, 6, 7] (fun ov fv iv wr => ∃ (i f n c : Nat) (A : Option Addr) (P : List (List UInt8)), i ≤ s.size + 1 ∧ iv = .int .i64 i ∧ fv = .int .i64 f ∧ ov = .slice A n c ∧ Coll w A n c P wr ∧ n ≤ f ∧ f ≤ i ∧ P.length = n ∧ (i ≤ s.size → Seg by_ s.data.toList P f i) ∧ (i = s.size + 1 → P = splitB by_ s.data.toList)) (fun _ _ iv _ => s.size + 1 - (RowKit.intOf iv).toNat)
  case atStart => exact ⟨0, 0, 0, 0, _, [], by omega, rfl, rfl, rfl, C0.out, Nat.le_refl _, Nat.le_refl _, rfl, fun _ => Seg.start _ _, fun h => by omega⟩
  case round =>
    obtain ⟨i, f, n, c, A, P, hin, rfl, rfl, rfl, hC, hnf, hfi, hPn, hseg, hend⟩ := hrel
    have HC := Lib.hid hC
    have HP := Lib.hid hPn
    clear hC hPn C0
    by_cases hlt : i ≤ s.size
    · have HS := Lib.hid (hseg hlt)
      have hlw : w.heap.size ≤ wr.heap.size := HC.out.2.size
      clear hseg hend
      by_cases he : i = s.size
      · subst he
        go_wp2_with (at_builtin; refine wpList_append_new _ strE rfl _ _ 39 rfl 9 i0 (.string ⟨#[]⟩) 16 Tryz.underlying39 hi hz0 hz1 rfl hz2 w.heap.size A n c (P.map strB) _ rfl (HC.out.1.below ((Below.refl _ _).alloc (Nat.le_refl _) _)) _ 1 (s.extract f s.size) [.string (s.extract f s.size)] rfl (Rd.lit1 _ _ _) (fun _ => rfl) ?h63 ?hby ?hlo ?_; (case h63 => (unfold maxLen; omega)); (case hby => omega); (case hlo => (simp; omega)); intro A3 c3 w3 hG hT; have HN := Lib.hid (HC.out.next (part_last s f) ((HC.out.2.alloc hlw _)) hG hT (by simp)); clear hG hT)
        go_roundw
        case rel => exact ⟨s.size + 1, s.size + 1, n + 1, c3, A3, _, by omega, by go_num, by go_num, rfl, HN.out, by omega, by omega, by rw [List.length_append, HP.out]; rfl, fun h => by omega, fun _ => (HS.out.last (Nat.le_of_eq HSL.out)).symm⟩
        case measure => first | (simp [RowKit.intOf]; done) | (simp [RowKit.intOf]; omega)
      · have hlt' : i < s.size := by omega
        have hne : ((i : Int) == (s.size : Int)) = false := by simp; omega
        clear he
        by_cases hb : s[i] = by_
        · have HX : Hid (s.data.toList[i]? = some by_) := Lib.hid (by rw [← hb]; exact at_byte s hlt')
          have hbe : (((s[i]'hlt').toNat : Int) == (by_.toNat : Int)) = true := by rw [hb]; simp
          clear hb
          go_wp2_with (at_builtin; refine wpList_append_new _ strE rfl _ _ 39 rfl 9 i0 (.string ⟨#[]⟩) 16 Tryz.underlying39 hi hz0 hz1 rfl hz2 w.heap.size A n c (P.map strB) _ rfl (HC.out.1.below ((Below.refl _ _).alloc (Nat.le_refl _) _)) _ 1 (s.extract f i) [.string (s.extract f i)] rfl (Rd.lit1 _ _ _) (fun _ => rfl) ?h63 ?hby ?hlo ?_; (case h63 => (unfold maxLen; omega)); (case hby => omega); (case hlo => (simp; omega)); intro A3 c3 w3 hG hT; have HN := Lib.hid (HC.out.next (extract_strB s f i) ((HC.out.2.alloc hlw _)) hG hT (by simp)); clear hG hT)
          go_roundw
          case rel => exact ⟨i + 1, i + 1, n + 1, c3, A3, _, by omega, by go_num, by go_num, rfl, HN.out, by omega, by omega, by rw [List.length_append, HP.out]; rfl, fun _ => HS.out.cut HX.out, fun h => by omega⟩
          case measure => first | (simp [RowKit.intOf]; done) | (simp [RowKit.intOf]; omega)
        · have HX := Lib.hid (HS.out.skip (at_byte s hlt') hb)
          have hbe : (((s[i]'hlt').toNat : Int) == (by_.toNat : Int)) = false := by
            simp only [beq_eq_false_iff_ne, ne_eq, Int.natCast_inj]
            exact fun e => hb (UInt8.toNat_inj.1 e)
          clear hb
          go_wp2_with fail
          go_roundw
          case rel => exact ⟨i + 1, f, n, c, A, P, by omega, by go_num, rfl, rfl, HC.out, hnf, by omega, HP.out, fun _ => HX.out, fun h => by omega⟩
          case measure => first | (simp [RowKit.intOf]; done) | (simp [RowKit.intOf]; omega)
    · have HE := Lib.hid (hend (by omega))
      clear hseg hend
      go_wp2_with fail
      go_ret
      exact GivesW.ret HC.out.1 HE.out HC.out.2
/-! ### By runes -/
theorem decodeN_wide (n b0 b1 b2 b3 : Nat) (h : 128 ≤ b0) : 1 ≤ (decodeN n b0 b1 b2 b3).2 ∧ (decodeN n b0 b1 b2 b3).2 ≤ 4 ∧ (1 < (decodeN n b0 b1 b2 b3).2 → 1 < n ∧ 128 ≤ b1) ∧ (2 < (decodeN n b0 b1 b2 b3).2 → 2 < n ∧ 128 ≤ b2) ∧ (3 < (decodeN n b0 b1 b2 b3).2 → 3 < n ∧ 128 ≤ b3) := by
  unfold decodeN
  rw [if_neg (by omega)]
  repeat' split
  all_goals (simp only []; omega)
theorem get_byte (s : ByteArray) {i : Nat} (h : i < s.size) : s.get! i = s[i]'h := by simp [ByteArray.get!, getElem!_pos, h]; rfl
/-- A rune that is no ASCII: so are its bytes, and they lie within the string. -/
theorem runeWide (s : ByteArray) (pos : Nat) (h : pos < s.size) (ha : 128 ≤ (s[pos]'h).toNat) :
    128 ≤ (Utf8.decode s pos).1 ∧ 1 ≤ (Utf8.decode s pos).2 ∧ pos + (Utf8.decode s pos).2 ≤ s.size ∧ ∀ (j : Nat) (c : UInt8), pos ≤ j → j < pos + (Utf8.decode s pos).2 → s.data.toList[j]? = some c → 128 ≤ c.toNat := by
  refine ⟨(decode_high s pos h ha).1, ?_⟩
  have hd := decodeN_wide (s.size - pos) (s.get! pos).toNat (s.get! (pos + 1)).toNat (s.get! (pos + 2)).toNat (s.get! (pos + 3)).toNat (by rw [get_byte s h]; exact ha)
  rw [← decode_at] at hd
  generalize (Utf8.decode s pos).2 = k at hd
  obtain ⟨h1, h4, hb1, hb2, hb3⟩ := hd
  refine ⟨h1, by omega, fun j c hj1 hj2 hc => ?_⟩
  have hjs : j < s.size := (List.getElem?_eq_some_iff.1 hc).1
  rw [at_byte s hjs] at hc
  obtain rfl := Option.some.inj hc
  rcases (by omega : j = pos ∨ j = pos + 1 ∨ j = pos + 2 ∨ j = pos + 3) with rfl | rfl | rfl | rfl
  · exact ha
  · rw [← get_byte s hjs]; exact (hb1 (by omega)).2
  · rw [← get_byte s hjs]; exact (hb2 (by omega)).2
  · rw [← get_byte s hjs]; exact (hb3 (by omega)).2
/-- What is collected so far; an iterator stands in block k. -/
def CollI (w : World) (k : Nat) (s : ByteArray) (pos : Nat) (A : Option Addr) (n c : Nat) (P : List (List UInt8)) (wr : World) : Prop :=
  GrowP strE 9 w.heap.size wr A n c (P.map strB) (fun b => w.heap.size ≤ b ∧ b ≠ k ∧ b < wr.heap.size) ∧ Below w.heap.size w wr ∧ w.heap.size ≤ k ∧ wr.heap[k]? = some (.stringIter s pos)
section
variable {w wr : World} {k pos n c : Nat} {s : ByteArray} {A : Option Addr} {P : List (List UInt8)}
theorem CollI.lt (h : CollI w k s pos A n c P wr) : k < wr.heap.size := (Array.getElem?_eq_some_iff.1 h.2.2.2).1
theorem CollI.at_ (h : CollI w k s pos A n c P wr) (pos' : Nat) : CollI w k s pos' A n c P (wr.iterAt k s pos') := by
  refine ⟨?_, below_iterAt h.2.1 h.2.2.1 s pos', h.2.2.1, iterAt_heap wr k s pos pos' h.2.2.2⟩
  rw [iterAt_size]
  exact h.1.same fun b hb _ => iterAt_other wr k b s pos' hb.2.1
theorem CollI.next {o w3 : World} {A3 : Option Addr} {c3 : Nat} {x : ByteArray} {p : List UInt8} (h : CollI w k s pos A n c P wr) (hx : x = strB p) (ho : Below wr.heap.size wr o)
    (hG : GrowP strE 9 w.heap.size w3 A3 (n + 1) c3 (P.map strB ++ [x]) (fun b => (w.heap.size ≤ b ∧ b ≠ k ∧ b < wr.heap.size) ∨ (o.heap.size ≤ b ∧ b < w3.heap.size))) (ht : Touch (fun b => w.heap.size ≤ b ∧ b ≠ k ∧ b < wr.heap.size) o w3) : CollI w k s pos A3 (n + 1) c3 (P ++ [p]) w3 := by
  subst hx
  have h1 := ht.size
  have h2 := ho.size
  have h3 := h.lt
  have h4 := h.2.1.size
  have hb : Below w.heap.size w o := h.2.1.trans (ho.mono h4)
  refine ⟨?_, hb.trans (ht.below (fun b hb => hb.1) (by omega)), h.2.2.1, ?_⟩
  · rw [List.map_append]
    refine hG.mono (fun b hb2 => ?_)
    rcases hb2 with hb2 | hb2
    · exact ⟨hb2.1, hb2.2.1, by omega⟩
    · exact ⟨by omega, by omega, hb2.2⟩
  · rw [ht.block k (by omega) (fun hk => hk.2.1 rfl), ho.block k h3]
    exact h.2.2.2
end
theorem Coll.iter {w wr : World} {A : Option Addr} {n c : Nat} {P : List (List UInt8)} (h : Coll w A n c P wr) (s : ByteArray) (pos : Nat) : CollI w wr.heap.size s pos A n c P (wr.iter s pos) :=
  ⟨(h.1.below ((Below.refl _ _).alloc (Nat.le_refl _) _)).mono (fun b hb => ⟨hb.1, by omega, by show _ < (wr.alloc _).heap.size; rw [World.size_alloc]; omega⟩), h.2.alloc h.2.size _, h.2.size, World.iter_heap wr s pos⟩
end Go.Proofs.YtgibhbplgiejpaaGreat
namespace Go.Proofs.YtgibhbplgiejpaaGreat
open Go.RowKit Go.Lib
set_option linter.unusedVariables false
set_option linter.unusedSimpArgs false
theorem str_ne {a b : ByteArray} (h : ¬ a = b) : (a.toList == b.toList) = false := by
  rw [beq_eq_false_iff_ne, ByteArray.toList_eq, ByteArray.toList_eq]
  exact fun e => h (bytes_eq e)
theorem str_ne' {a b : ByteArray} (h : ¬ a = b) : ¬ a.toList = b.toList := by
  rw [ByteArray.toList_eq, ByteArray.toList_eq]
  exact fun e => h (bytes_eq e)
/-! ### The operation's name -/
theorem opW_yes {w : List UInt8} {k : Nat} (h0 : 1 ≤ k) (h1 : k ≤ 10) (hno : ∀ j : Nat, 1 ≤ j → j < k → nameW (opName j) ≠ w) (h : nameW (opName k) = w) : (k : Int) = opW w := by
  subst h
  exact (op_op ⟨by omega, by omega⟩).symm
theorem opW_no {w : List UInt8} (hno : ∀ j : Nat, 1 ≤ j → j < 11 → nameW (opName j) ≠ w) : 0 = opW w := by
  have h1 : nameW (opName 1) ≠ w := hno 1 (by omega) (by omega)
  have h2 : nameW (opName 2) ≠ w := hno 2 (by omega) (by omega)
  have h3 : nameW (opName 3) ≠ w := hno 3 (by omega) (by omega)
  have h4 : nameW (opName 4) ≠ w := hno 4 (by omega) (by omega)
  have h5 : nameW (opName 5) ≠ w := hno 5 (by omega) (by omega)
  have h6 : nameW (opName 6) ≠ w := hno 6 (by omega) (by omega)
  have h7 : nameW (opName 7) ≠ w := hno 7 (by omega) (by omega)
  have h8 : nameW (opName 8) ≠ w := hno 8 (by omega) (by omega)
  have h9 : nameW (opName 9) ≠ w := hno 9 (by omega) (by omega)
  have h10 : nameW (opName 10) ≠ w := hno 10 (by omega) (by omega)
  unfold opW
  rw [if_neg (Ne.symm h1), if_neg (Ne.symm h2), if_neg (Ne.symm h3), if_neg (Ne.symm h4), if_neg (Ne.symm h5), if_neg (Ne.symm h6), if_neg (Ne.symm h7), if_neg (Ne.symm h8), if_neg (Ne.symm h9), if_neg (Ne.symm h10)]
set_option maxHeartbeats 1000000 in
theorem specOpW (s : ByteArray) (w : World) : Calls Tryz.prog 120 #[.string s] w (GivesInt (opW s.data.toList) w) := by
  go_enter Tryz.func120, Tryz.ntmps120
  go_wp2_with fail
  go_loopw [3] (fun kv wr => ∃ k : Nat, 1 ≤ k ∧ k ≤ 11 ∧ kv = .int .i64 k ∧ (∀ j : Nat, 1 ≤ j → j < k → nameW (opName j) ≠ s.data.toList) ∧ Below w.heap.size w wr) (fun kv _ => 11 - (RowKit.intOf kv).toNat)
  case atStart => exact ⟨1, by omega, by omega, rfl, fun j h1 h2 => by omega, Below.refl _ _⟩
  case round =>
    obtain ⟨k, hk1, hk2, rfl, hno, hb⟩ := hrel
    have HNO := Lib.hid hno
    have HB := Lib.hid hb
    clear hno hb
    by_cases hle : k ≤ 10
    · by_cases he : opName (k : Int) = s
      · have HN := Lib.hid (opW_yes hk1 hle HNO.out (by rw [he]; rfl))
        have heq : (opName (k : Int)).toList = s.toList := by rw [he]
        have heb : ((opName (k : Int)).toList == s.toList) = true := by rw [he]; simp
        clear he
        go_wp2_with ((with_reducible refine (specOp _ _).mono ?_); rintro e w2 ⟨rfl, hb2⟩; have HB2 := Lib.hid (HB.out.trans (hb2.mono HB.out.size)); clear hb2)
        go_ret
        exact GivesInt.ret HN.out HB2.out
      · have HN : Hid (∀ j : Nat, 1 ≤ j → j < k + 1 → nameW (opName j) ≠ s.data.toList) := Lib.hid (fun j h1 h2 => by
          by_cases hj : j = k
          · subst hj; exact fun e => he (bytes_eq e)
          · exact HNO.out j h1 (by omega))
        have h1 := str_ne he
        have h2 := str_ne' he
        clear he
        go_wp2_with ((with_reducible refine (specOp _ _).mono ?_); rintro e w2 ⟨rfl, hb2⟩; have HB2 := Lib.hid (HB.out.trans (hb2.mono HB.out.size)); clear hb2)
        go_roundw
        case rel => exact ⟨k + 1, by omega, by omega, by go_num, HN.out, HB2.out⟩
        case measure => simp [RowKit.intOf]; omega
    · have HN := Lib.hid (opW_no (w := s.data.toList) (fun j h1 h2 => HNO.out j h1 (by omega)))
      go_wp2_with fail
      go_ret
      exact GivesInt.ret HN.out HB.out
/-! ### A word, a number -/
theorem strW_yes {ws : List (List UInt8)} {i : Nat} {x : List UInt8} (h : ws[i]? = some x) : strB x = strW ws i := by rw [strW, h]; rfl
theorem strW_no {ws : List (List UInt8)} {i : Nat} (h : ws[i]? = none) : (⟨#[]⟩ : ByteArray) = strW ws i := by rw [strW, h]
def numB (s : ByteArray) : Int := if pok s.data.toList then (dval s.data.toList : Int) else -1
theorem numB_yes {s : ByteArray} (h : pok s.data.toList = true) : (pval s.data.toList : Int) = numB s := by rw [numB, if_pos h, pval_yes h]
theorem numB_no {s : ByteArray} (h : pok s.data.toList = false) : -1 = numB s := by rw [numB, h]; rfl
theorem numW_at {ws : List (List UInt8)} {i : Nat} {x : List UInt8} (h : ws[i]? = some x) : numW ws i = numB (strB x) := by rw [numW, h]; rfl
theorem numW_off {ws : List (List UInt8)} {i : Nat} (h : ws[i]? = none) : -1 = numW ws i := by rw [numW, h]
set_option maxHeartbeats 1000000 in
theorem specNumW (ws : List (List UInt8)) (A : Option Addr) (n c i : Nat) (w : World) (h : Words w A n ws) (hi : i ≤ 9223372036854775807) (hn : n ≤ 9223372036854775807) (hs : ∀ x ∈ ws, x.length ≤ 140737488351232) : Calls Tryz.prog 121 #[.slice A n c, .int .i64 i] w (GivesInt (numW ws i) w) := by
  by_cases hlt : i < n
  · obtain ⟨b, off, x, rfl, hbw, hx, hcell⟩ := h.at_ hlt
    have HX := Lib.hid (numW_at hx)
    have hxs : (strB x).size ≤ 140737488351232 := by have h1 := hs x (List.mem_of_getElem? hx); show x.toArray.size ≤ _; rw [List.size_toArray]; exact h1
    have h0 : (0 : Int) ≤ i := by omega
    have h1 : (i : Int) < n := by omega
    clear hx h hs
    obtain ⟨v, hv⟩ : ∃ v, pok (strB x).data.toList = v := ⟨_, rfl⟩
    cases v with
    | true =>
      have HN := Lib.hid (numB_yes hv)
      have HP := Lib.hid hv
      clear hv
      go_enter Tryz.func121, Tryz.ntmps121
      go_wp2_with fail
      refine (specParse (strB x) _ hxs).mono ?_
      rintro e w1 ⟨rfl, hb⟩
      have HB := Lib.hid hb
      rw [HP.out]
      clear hb
      go_wp2_with fail
      go_ret
      exact GivesInt.ret (HN.out.trans HX.out.symm) HB.out
    | false =>
      have HN := Lib.hid (numB_no hv)
      have HP := Lib.hid hv
      clear hv
      go_enter Tryz.func121, Tryz.ntmps121
      go_wp2_with fail
      refine (specParse (strB x) _ hxs).mono ?_
      rintro e w1 ⟨rfl, hb⟩
      have HB := Lib.hid hb
      rw [HP.out]
      clear hb
      go_wp2_with fail
      go_ret
      exact GivesInt.ret (HN.out.trans HX.out.symm) HB.out
  · have HX := Lib.hid (numW_off (ws := ws) (i := i) (List.getElem?_eq_none (by rw [h.1]; omega)))
    clear h hs
    go_enter Tryz.func121, Tryz.ntmps121
    go_wp2
    go_ret
    exact GivesInt.ret HX.out (Below.refl _ _)
end Go.Proofs.YtgibhbplgiejpaaGreat
namespace Go.Proofs.YtgibhbplgiejpaaGreat
open Go.RowKit
set_option linter.unusedVariables false
set_option linter.unusedSimpArgs false
theorem Box.set {b j : Nat} {cs : List Value} {w : World} (h : Box b cs w) (hj : j < cs.length) (u : Value) : Box b (cs.set j u) (w.setCell ⟨b, j, none⟩ u) := by
  refine ⟨by simpa [World.setCell] using h.1, fun i v hv => ?_⟩
  rw [List.getElem?_set] at hv
  by_cases e : j = i
  · subst e
    rw [if_pos rfl, if_pos hj] at hv
    obtain rfl := Option.some.inj hv
    exact World.cell?_setCell_same _ _ _ (h.2 j _ (List.getElem?_eq_getElem hj))
  · rw [if_neg e] at hv
    rw [World.cell?_setCell_other (h := fun e' => e (by injection e'))]
    exact h.2 i v hv
theorem Zb.set {B b j : Nat} {cs : List Value} {w : World} (h : Zb B b cs w) (hj : j < cs.length) (u : Value) : Zb B b (cs.set j u) (w.setCell ⟨b, j, none⟩ u) :=
  ⟨h.1, h.2.1.set hj u, fun i => by rw [World.frozen?_setCell]; exact h.2.2 i⟩
theorem Zb.far {B b g j : Nat} {cs : List Value} {w : World} (h : Zb B b cs w) (hg : g ≠ b) (u : Value) : Zb B b cs (w.setCell ⟨g, j, none⟩ u) :=
  ⟨h.1, h.2.1.far hg u, fun i => by rw [World.frozen?_setCell]; exact h.2.2 i⟩
theorem Zb.iterAt {B b k : Nat} {cs : List Value} {w : World} (h : Zb B b cs w) (hk : b ≠ k) (s : ByteArray) (pos : Nat) : Zb B b cs (w.iterAt k s pos) :=
  ⟨h.1, h.2.1.iterAt hk s pos, fun i => (World.frozen?_of_block (w := w) (a := ⟨b, i, none⟩) (Lib.iterAt_other w k b s pos hk)).trans (h.2.2 i)⟩
def zero6 : List Value := [.int .i64 0, .int .i64 0, .int .i64 0, .int .i64 0, .int .i64 0, .string ⟨#[]⟩]
def four (x : I) : List Value := [.int .i64 x.a, .int .i64 x.b, .int .i64 x.c, .int .i64 x.d]
/-- The result's box, the four numbers so far, the iterator, the words. -/
def RdR (W : World) (ws : List (List UInt8)) (A : Option Addr) (n g k : Nat) (s : ByteArray) (x : I) (wr : World) : Prop :=
  Zb W.heap.size W.heap.size zero6 wr ∧ Zb W.heap.size g (four x) wr ∧ wr.heap[g + 1]? = some (.stringIter s k) ∧ W.heap.size < g ∧ Below W.heap.size W wr ∧ Words wr A n ws
section
variable {W wr w' : World} {ws : List (List UInt8)} {A : Option Addr} {n g k : Nat} {s : ByteArray} {x : I}
theorem Words.low {lo : Nat} {w w' : World} (h : Words w A n ws) (hb : Below lo w w') (hl : w.heap.size ≤ lo) : Words w' A n ws := h.below (hb.mono hl)
theorem RdR.at_ (h : RdR W ws A n g k s x wr) (hw : Words W A n ws) (k' : Nat) : RdR W ws A n g k' s x (wr.iterAt (g + 1) s k') := by
  have hg := h.2.2.2.1
  have hb := Lib.below_iterAt h.2.2.2.2.1 (k := g + 1) (by omega) s k'
  exact ⟨h.1.iterAt (by omega) _ _, h.2.1.iterAt (by omega) _ _, Lib.iterAt_heap _ _ _ k k' h.2.2.1, hg, hb, hw.below hb⟩
theorem RdR.below (h : RdR W ws A n g k s x wr) (hb : Below wr.heap.size wr w') : RdR W ws A n g k s x w' :=
  ⟨h.1.below hb, h.2.1.below hb, (hb.block _ (Array.getElem?_eq_some_iff.1 h.2.2.1).1).trans h.2.2.1, h.2.2.2.1, h.2.2.2.2.1.trans (hb.mono h.2.2.2.2.1.size), h.2.2.2.2.2.below hb⟩
theorem RdR.put {j : Nat} {y : I} (h : RdR W ws A n g k s x wr) (hw : Words W A n ws) (hj : j < 4) (u : Value) (e : (four x).set j u = four y) : RdR W ws A n g k s y (wr.setCell ⟨g, j, none⟩ u) := by
  have hg := h.2.2.2.1
  have hb : Below W.heap.size W (wr.setCell ⟨g, j, none⟩ u) := h.2.2.2.2.1.setCell (by show W.heap.size ≤ g; omega) u
  exact ⟨h.1.far (by omega) u, e ▸ h.2.1.set (by exact hj) u, (Below.heap_setCell _ _ _ _ (by show g + 1 ≠ g; omega)).trans h.2.2.1, hg, hb, hw.below hb⟩
theorem RdR.cells (h : RdR W ws A n g k s x wr) : (wr.cell? ⟨g, 0, none⟩ = some (.int .i64 x.a) ∧ wr.cell? ⟨g, 1, none⟩ = some (.int .i64 x.b) ∧ wr.cell? ⟨g, 2, none⟩ = some (.int .i64 x.c) ∧ wr.cell? ⟨g, 3, none⟩ = some (.int .i64 x.d)) ∧
    wr.frozen? ⟨g, 0, none⟩ = false ∧ wr.frozen? ⟨g, 1, none⟩ = false ∧ wr.frozen? ⟨g, 2, none⟩ = false ∧ wr.frozen? ⟨g, 3, none⟩ = false :=
  ⟨⟨h.2.1.2.1.2 0 _ rfl, h.2.1.2.1.2 1 _ rfl, h.2.1.2.1.2 2 _ rfl, h.2.1.2.1.2 3 _ rfl⟩, h.2.1.2.2 0, h.2.1.2.2 1, h.2.1.2.2 2, h.2.1.2.2 3⟩
end
theorem strW_size {ws : List (List UInt8)} (h : ∀ x ∈ ws, x.length ≤ 140737488351232) (i : Nat) : (strW ws i).size ≤ 140737488351232 := by
  unfold strW
  split
  · exact Nat.zero_le _
  · rename_i x hx
    have h1 := h x (List.mem_of_getElem? hx)
    show x.toArray.size ≤ _
    rw [List.size_toArray]; exact h1
theorem read_next {op : Int} {ws : List (List UInt8)} {k : Nat} {c : UInt8} {x y : I} (h : (layW op)[k]? = some c) (hx : readK op ws k = x) (hy : putI x c (strW ws (k + 1)) = y) : readK op ws (k + 1) = y := by
  rw [readK, h, ← hy, ← hx]
theorem put_a (x : I) (s : ByteArray) : putI x 65 s = ⟨x.op, numB s, x.b, x.c, x.d, x.name⟩ := rfl
theorem put_b (x : I) (s : ByteArray) : putI x 66 s = ⟨x.op, x.a, numB s, x.c, x.d, x.name⟩ := rfl
theorem put_c (x : I) (s : ByteArray) : putI x 67 s = ⟨x.op, x.a, x.b, numB s, x.d, x.name⟩ := rfl
theorem put_d (x : I) (s : ByteArray) : putI x 68 s = ⟨x.op, x.a, x.b, x.c, numB s, x.name⟩ := rfl
theorem put_n (x : I) (s : ByteArray) : putI x 78 s = ⟨x.op, x.a, x.b, x.c, x.d, s⟩ := rfl
theorem next_lay {wr : World} {op : Int} {g k : Nat} (h : wr.heap[g + 1]? = some (.stringIter (strB (layW op)) k)) {ch : UInt8} {n : Int} (hc : (layW op)[k]? = some ch) (hn : (ch.toNat : Int) = n) (ha : ch.toNat < 128) (ty : TypeId) :
    (Instr.next (.pointer (some ⟨g + 1, 0, none⟩)) true ty).run Tryz.prog wr = .ok (.tuple #[.bool true, .int .i64 k, .int .i32 n]) (wr.iterAt (g + 1) (strB (layW op)) (k + 1)) := by
  have hlt : k < (strB (layW op)).size := by
    show k < (layW op).toArray.size
    rw [List.size_toArray]
    exact (List.getElem?_eq_some_iff.1 hc).1
  have e : (strB (layW op))[k]'hlt = ch := (List.getElem?_eq_some_iff.1 hc).2
  rw [Lib.run_next_ascii_at wr (g + 1) (strB (layW op)) k ty h hlt (by rw [e]; exact ha), e, hn]
theorem readK_op (op : Int) (ws : List (List UInt8)) : ∀ k, (readK op ws k).op = op
  | 0 => rfl
  | k + 1 => by
    rw [readK]
    split
    · exact readK_op op ws k
    · unfold putI
      simp only []
      repeat' split
      all_goals exact readK_op op ws k
theorem head_strW (ws : List (List UInt8)) : (strW ws 0).data.toList = ws.headD [] := by
  cases ws with
  | nil => rfl
  | cons x ws => rfl
theorem zero_size : (zero6).length = 6 := rfl
/-- Six cells are stored. -/
def put6 (w : World) (g : Nat) (x : I) : World := (((((w.setCell ⟨g, 0, none⟩ (.int .i64 x.op)).setCell ⟨g, 1, none⟩ (.int .i64 x.a)).setCell ⟨g, 2, none⟩ (.int .i64 x.b)).setCell ⟨g, 3, none⟩ (.int .i64 x.c)).setCell ⟨g, 4, none⟩ (.int .i64 x.d)).setCell ⟨g, 5, none⟩ (.string x.name)
def six6 (x : I) : List Value := [.int .i64 x.op, .int .i64 x.a, .int .i64 x.b, .int .i64 x.c, .int .i64 x.d, .string x.name]
theorem Zb.put6 {B g : Nat} {w : World} {a b c d e f : Value} (h : Zb B g [a, b, c, d, e, f] w) (x : I) : Zb B g (six6 x) (put6 w g x) :=
  (((((h.set (j := 0) (by simp) (.int .i64 x.op)).set (j := 1) (by simp) (.int .i64 x.a)).set (j := 2) (by simp) (.int .i64 x.b)).set (j := 3) (by simp) (.int .i64 x.c)).set (j := 4) (by simp) (.int .i64 x.d)).set (j := 5) (by simp) (.string x.name)
theorem below_put6 {W w : World} {g : Nat} (h : Below W.heap.size W w) (hg : W.heap.size ≤ g) (x : I) : Below W.heap.size W (Go.Proofs.YtgibhbplgiejpaaGreat.put6 w g x) :=
  (((((h.setCell hg _).setCell hg _).setCell hg _).setCell hg _).setCell hg _).setCell hg _
theorem Zb.six {B g : Nat} {w : World} {a b c d e f : Value} (h : Zb B g [a, b, c, d, e, f] w) : (w.cell? ⟨g, 0, none⟩ = some a ∧ w.cell? ⟨g, 1, none⟩ = some b ∧ w.cell? ⟨g, 2, none⟩ = some c ∧ w.cell? ⟨g, 3, none⟩ = some d ∧ w.cell? ⟨g, 4, none⟩ = some e ∧ w.cell? ⟨g, 5, none⟩ = some f) ∧
    w.frozen? ⟨g, 0, none⟩ = false ∧ w.frozen? ⟨g, 1, none⟩ = false ∧ w.frozen? ⟨g, 2, none⟩ = false ∧ w.frozen? ⟨g, 3, none⟩ = false ∧ w.frozen? ⟨g, 4, none⟩ = false ∧ w.frozen? ⟨g, 5, none⟩ = false :=
  ⟨⟨h.2.1.2 0 _ rfl, h.2.1.2 1 _ rfl, h.2.1.2 2 _ rfl, h.2.1.2 3 _ rfl, h.2.1.2 4 _ rfl, h.2.1.2 5 _ rfl⟩, h.2.2 0, h.2.2 1, h.2.2 2, h.2.2 3, h.2.2 4, h.2.2 5⟩
end Go.Proofs.YtgibhbplgiejpaaGreat
namespace Go.Proofs.YtgibhbplgiejpaaGreat
open Go.RowKit
set_option linter.unusedVariables false
set_option linter.unusedSimpArgs false
def zeroI : I := ⟨0, 0, 0, 0, 0, ⟨#[]⟩⟩
/-- An instruction comes back, or none. -/
def GivesPI (o : Option I) (w : World) (e : Ending) (w' : World) : Prop :=
  e = .returned (.tuple #[.agg #[.int .i64 (o.getD zeroI).op, .int .i64 (o.getD zeroI).a, .int .i64 (o.getD zeroI).b, .int .i64 (o.getD zeroI).c, .int .i64 (o.getD zeroI).d, .string (o.getD zeroI).name], .bool o.isSome]) ∧ Below w.heap.size w w'
theorem GivesPI.none_ {o : Option I} {w w' : World} (h : o = none) (hb : Below w.heap.size w w') : GivesPI o w (.returned (.tuple #[.agg #[.int .i64 0, .int .i64 0, .int .i64 0, .int .i64 0, .int .i64 0, .string ⟨#[]⟩], .bool false])) w' := by subst h; exact ⟨rfl, hb⟩
theorem GivesPI.some_ {o : Option I} {w w' : World} {op a b c d : Int} {nm : ByteArray} (h : o = some ⟨op, a, b, c, d, nm⟩) (hb : Below w.heap.size w w') : GivesPI o w (.returned (.tuple #[.agg #[.int .i64 op, .int .i64 a, .int .i64 b, .int .i64 c, .int .i64 d, .string nm], .bool true])) w' := by subst h; exact ⟨rfl, hb⟩
theorem split_len (sep : UInt8) : ∀ l : List UInt8, (splitB sep l).length ≤ l.length + 1
  | [] => by simp [splitB]
  | c :: l => by
    have h := split_len sep l
    rw [splitB]
    split
    · simp only [List.length_cons]; omega
    · split
      · simp
      · rename_i w ws hs
        rw [hs] at h
        simp only [List.length_cons] at h ⊢
        omega
theorem split_each (sep : UInt8) : ∀ (l : List UInt8), ∀ x ∈ splitB sep l, x.length ≤ l.length
  | [], x, h => by
    rw [splitB, List.mem_singleton] at h
    subst h
    exact Nat.le_refl _
  | c :: l, x, h => by
    have ih := split_each sep l
    rw [splitB] at h
    split at h
    · rcases List.mem_cons.1 h with rfl | h
      · simp
      · have := ih x h; simp only [List.length_cons]; omega
    · split at h
      · rw [List.mem_singleton] at h; subst h; simp
      · rename_i w ws hs
        rw [hs] at ih
        rcases List.mem_cons.1 h with rfl | h
        · have := ih w (by simp); simp only [List.length_cons]; omega
        · have := ih x (List.mem_cons_of_mem _ h); simp only [List.length_cons]; omega
/-- The result's box and the instruction's. -/
def PI2 (W : World) (g : Nat) (x : I) (wr : World) : Prop := Zb W.heap.size W.heap.size zero6 wr ∧ Box g (six6 x) wr ∧ Below W.heap.size W wr
section
variable {W wr w' : World} {g : Nat} {x : I}
theorem PI2.below (h : PI2 W g x wr) (hb : Below wr.heap.size wr w') : PI2 W g x w' := ⟨h.1.below hb, h.2.1.below hb, h.2.2.trans (hb.mono h.2.2.size)⟩
theorem PI2.drew (h : PI2 W g x wr) : PI2 W g x wr.drew := ⟨h.1.drew, h.2.1.drew, h.2.2.drew⟩
theorem PI2.cells (h : PI2 W g x wr) : wr.cell? ⟨g, 0, none⟩ = some (.int .i64 x.op) ∧ wr.cell? ⟨g, 1, none⟩ = some (.int .i64 x.a) ∧ wr.cell? ⟨g, 2, none⟩ = some (.int .i64 x.b) ∧ wr.cell? ⟨g, 3, none⟩ = some (.int .i64 x.c) ∧ wr.cell? ⟨g, 4, none⟩ = some (.int .i64 x.d) ∧ wr.cell? ⟨g, 5, none⟩ = some (.string x.name) :=
  ⟨h.2.1.2 0 _ rfl, h.2.1.2 1 _ rfl, h.2.1.2 2 _ rfl, h.2.1.2 3 _ rfl, h.2.1.2 4 _ rfl, h.2.1.2 5 _ rfl⟩
theorem PI2.res (h : PI2 W g x wr) : Zb W.heap.size W.heap.size [.int .i64 0, .int .i64 0, .int .i64 0, .int .i64 0, .int .i64 0, .string ⟨#[]⟩] wr := h.1
end
theorem fmt_ne {x : I} {s : ByteArray} (h : fmtI x ≠ s.data.toList) : ¬ (⟨(fmtI x).toArray⟩ : ByteArray) = s := fun e => h (by rw [← e])
end Go.Proofs.YtgibhbplgiejpaaGreat
