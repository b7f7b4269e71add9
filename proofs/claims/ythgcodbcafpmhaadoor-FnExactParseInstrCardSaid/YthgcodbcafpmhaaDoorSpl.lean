/- A text cut at a byte, both sides: the words lie in a slice. -/
import Derived.Test.YthgcodbcafpmhaaDoorDatRow
import Derived.Test.YthgcodbcafpmhaaDoorTxtQ
import Derived.Test.YthgcodbcafpmhaaDoorKit
import Derived.Test.YthgcodbcafpmhaaDoorInsL
import Derived.Lib.OthersKept
import Derived.Lib.DecodeN
import Derived.Laws.RangeAny
import Derived.WalkSmall
import Derived.LoopTactic
import Derived.Lib.Hide
import Derived.Handy
namespace Go.Proofs.YthgcodbcafpmhaaDoor
open Go.RowKit Go.Lib
set_option linter.unusedVariables false
set_option linter.unusedSimpArgs false
/-! ### Plain -/
theorem extract_toB (s : ByteArray) (a b : Nat) : s.extract a b = toB ((s.data.toList.drop a).take (b - a)) := by
  apply bytes_eq
  show (s.extract a b).data.toList = _
  rw [ByteArray.data_extract, Array.toList_extract]
  rw [List.extract_eq_take_drop]
  rfl
/-- Behind the parts P the last one began at f; up to i it holds no separator. -/
structure Seg (sep : UInt8) (l : List UInt8) (P : List (List UInt8)) (f i : Nat) : Prop where
  le : f ≤ i
  few : P.length ≤ f
  eq : splitB sep l = P ++ splitB sep (l.drop f)
  no : sep ∉ (l.drop f).take (i - f)
section
variable {sep : UInt8} {l : List UInt8} {P : List (List UInt8)} {f i : Nat}
theorem Seg.start (sep : UInt8) (l : List UInt8) : Seg sep l [] 0 0 := ⟨Nat.le_refl _, Nat.le_refl _, by simp, by simp⟩
theorem Seg.skip (h : Seg sep l P f i) {c : UInt8} (hc : l[i]? = some c) (hne : c ≠ sep) : Seg sep l P f (i + 1) := by
  refine ⟨Nat.le_succ_of_le h.le, h.few, h.eq, ?_⟩
  have hle := h.le
  rw [show i + 1 - f = i - f + 1 by omega, List.take_add_one, List.getElem?_drop, show f + (i - f) = i by omega, hc]
  intro hm
  rcases List.mem_append.1 hm with hm | hm
  · exact h.no hm
  · exact hne (Option.some.inj (Option.mem_toList.1 hm))
theorem Seg.far (h : Seg sep l P f i) : ∀ n : Nat, (∀ j c, i ≤ j → j < i + n → l[j]? = some c → c ≠ sep) → i + n ≤ l.length → Seg sep l P f (i + n)
  | 0, _, _ => h
  | n + 1, hno, hl => by
    have h1 := Seg.far h n (fun j c h1 h2 => hno j c h1 (by omega)) (by omega)
    have hx : l[i + n]? = some (l[i + n]'(by omega)) := List.getElem?_eq_getElem (by omega)
    exact h1.skip hx (hno _ _ (by omega) (by omega) hx)
theorem Seg.cut (h : Seg sep l P f i) (hc : l[i]? = some sep) : Seg sep l (P ++ [(l.drop f).take (i - f)]) (i + 1) (i + 1) := by
  have hle := h.le
  have hi := (List.getElem?_eq_some_iff.1 hc).1
  refine ⟨Nat.le_refl _, by have := h.few; simp; omega, ?_, by simp⟩
  have e : l.drop f = (l.drop f).take (i - f) ++ sep :: l.drop (i + 1) := by
    have h1 := (List.take_append_drop (i - f) (l.drop f)).symm
    rw [List.drop_drop, show f + (i - f) = i by omega] at h1
    have h2 : l.drop i = sep :: l.drop (i + 1) := by
      rw [← (List.getElem?_eq_some_iff.1 hc).2, List.getElem_cons_drop]
    rw [h2] at h1
    exact h1
  rw [h.eq]
  conv => lhs; rw [e, split_cons h.no]
  rw [List.append_assoc]
  rfl
theorem Seg.last (h : Seg sep l P f i) (hi : l.length ≤ i) : splitB sep l = P ++ [l.drop f] := by
  rw [h.eq]
  have hn := h.no
  rw [List.take_of_length_le (by rw [List.length_drop]; omega)] at hn
  rw [split_last hn]
end
/-! ### Words in memory -/
def strE : Elt ByteArray where
  dat s := .s s
  own w s cs B := cs = [.string s]
  k := 1
  pos := by decide
  toOwns := fun h => by rw [Owns]; exact h
  width := fun _ => rfl
  same := fun h _ => h
  mono := fun h _ => h
/-- The slice reads as these words. -/
def Words (w : World) (A : Option Addr) (n : Nat) (ws : List (List UInt8)) : Prop := ws.length = n ∧ Rd w w.heap.size A (ws.map fun x => Value.string (toB x))
section
variable {w w' : World} {A : Option Addr} {n : Nat} {ws : List (List UInt8)}
theorem Words.below (h : Words w A n ws) (hb : Below w.heap.size w w') : Words w' A n ws := ⟨h.1, (h.2.below hb).more hb.size⟩
theorem Words.at_ (h : Words w A n ws) {i : Nat} (hi : i < n) : ∃ b off x, A = some ⟨b, off, none⟩ ∧ b < w.heap.size ∧ ws[i]? = some x ∧ w.cell? ⟨b, off + i, none⟩ = some (.string (toB x)) := by
  have hl : i < ws.length := by rw [h.1]; exact hi
  obtain ⟨b, off, e, hb, hc⟩ := h.2.at_ (k := i) (by simpa using hl)
  exact ⟨b, off, ws[i], e, hb, List.getElem?_eq_getElem hl, by simpa using hc⟩
theorem LiesAll.strs {w : World} : ∀ {ss : List ByteArray} {xs : List Value}, LiesAll w (ss.map fun s => Dat.s s) xs → xs = ss.map Value.string
  | [], xs, h => by rw [List.map_nil, LiesAll] at h; exact h
  | s :: ss, xs, h => by
    rw [List.map_cons, LiesAll] at h
    obtain ⟨c1, c2, rfl, h1, h2⟩ := h
    rw [Lies] at h1
    rw [h1, LiesAll.strs h2]
    rfl
theorem GrowP.words {E : TypeId} {lo c : Nat} {B : Nat → Prop} (h : GrowP strE E lo w A n c (ws.map toB) B) : Words w A n ws := by
  have hn := h.count
  rw [List.length_map] at hn
  refine ⟨hn, ?_⟩
  have h1 := h.owns.lies
  rw [Lies] at h1
  obtain ⟨A', n', c', e, -, h1⟩ := h1
  simp only [List.cons.injEq, Value.slice.injEq, and_true] at e
  obtain ⟨rfl, rfl, rfl⟩ := e
  rcases h1 with h1 | ⟨b, off, xs, e, hlt, hx, hc⟩
  · left
    have h2 : ws = [] := by simpa using h1
    rw [h2]; rfl
  · right
    refine ⟨b, off, e, hlt, ?_⟩
    have h2 := LiesAll.strs (ss := ws.map toB) hx
    rw [h2, List.map_map] at hc
    exact hc
end
/-- A new slice of words comes back. -/
def GivesW (ws : List (List UInt8)) (w : World) (e : Ending) (w' : World) : Prop := ∃ A n c, e = .returned (.slice A n c) ∧ Words w' A n ws ∧ Below w.heap.size w w'
theorem GivesW.ret {ws : List (List UInt8)} {w w' : World} {E : TypeId} {lo c n : Nat} {A : Option Addr} {B : Nat → Prop} {P : List (List UInt8)} (h : GrowP strE E lo w' A n c (P.map toB) B) (hP : P = ws) (hb : Below w.heap.size w w') : GivesW ws w (.returned (.slice A n c)) w' := by
  subst hP
  exact ⟨A, n, c, rfl, h.words, hb⟩
theorem infoStr : (Tryd.prog.info? 9).map (fun i => (i.zero, i.size, i.bytes)) = some (some (.string ⟨#[]⟩), 1, 16) := by kernel_rfl
/-- What is collected so far. -/
def Coll (w : World) (A : Option Addr) (n c : Nat) (P : List (List UInt8)) (wr : World) : Prop := GrowP strE 9 w.heap.size wr A n c (P.map toB) (fun b => w.heap.size ≤ b ∧ b < wr.heap.size) ∧ Below w.heap.size w wr
theorem Coll.drew {w wr : World} {A : Option Addr} {n c : Nat} {P : List (List UInt8)} (h : Coll w A n c P wr) : Coll w A n c P wr.drew := ⟨h.1.drew, h.2.drew⟩
theorem Coll.next {w wr o w3 : World} {A A3 : Option Addr} {n c c3 : Nat} {P : List (List UInt8)} {x : ByteArray} {p : List UInt8} (h : Coll w A n c P wr) (hx : x = toB p) (hb : Below w.heap.size w o)
    (hG : GrowP strE 9 w.heap.size w3 A3 (n + 1) c3 (P.map toB ++ [x]) (fun b => (w.heap.size ≤ b ∧ b < wr.heap.size) ∨ (o.heap.size ≤ b ∧ b < w3.heap.size))) (ht : Touch (fun b => w.heap.size ≤ b ∧ b < wr.heap.size) o w3) (hs : wr.heap.size ≤ o.heap.size) : Coll w A3 (n + 1) c3 (P ++ [p]) w3 := by
  subst hx
  refine ⟨?_, hb.trans (ht.below (fun b hb => hb.1) hb.size)⟩
  rw [List.map_append]
  refine hG.mono (fun b hb2 => ?_)
  have h1 := ht.size
  have h2 := hb.size
  rcases hb2 with hb2 | hb2
  · exact ⟨hb2.1, by omega⟩
  · exact ⟨by omega, hb2.2⟩
theorem Rd.lit1 (w : World) (v : Value) (E : TypeId) : Rd (w.alloc (.cells #[v] E)) (w.alloc (.cells #[v] E)).heap.size (some ⟨w.heap.size, 0, none⟩) [v] := by
  refine Or.inr ⟨w.heap.size, 0, rfl, by simp, fun j u hj => ?_⟩
  rw [Nat.zero_add, cell_of_row _ w.heap.size j #[v] E (0, 0) (by show (w.heap.push _)[w.heap.size]? = _; simp)]
  simpa using hj
theorem at_byte (s : ByteArray) {i : Nat} (h : i < s.size) : s.data.toList[i]? = some (s[i]'h) := by
  rw [List.getElem?_eq_getElem (by exact h)]
  rfl
theorem part_last (s : ByteArray) (f : Nat) : s.extract f s.size = toB (s.data.toList.drop f) := by
  rw [extract_toB]
  have e : (s.data.toList.drop f).length ≤ s.size - f := by rw [List.length_drop]; exact Nat.le_refl _
  rw [List.take_of_length_le e]
set_option maxRecDepth 100000 in
set_option maxHeartbeats 4000000 in
theorem specSplit (s : ByteArray) (by_ : UInt8) (w : World) (hs : s.size ≤ 1099511627776) : Calls Tryd.prog 19 #[.string s, .int .u8 by_.toNat] w (GivesW (splitB by_ s.data.toList) w) := by
  obtain ⟨i0, hi, hz0, hz1, hz2⟩ := info_parts infoStr
  have hsl : s.data.toList.length = s.size := rfl
  have C0 : Hid (Coll w (some ⟨w.heap.size, 0, none⟩) 0 0 [] (w.alloc (.cells #[] 9))) := Lib.hid ⟨GrowP.lit0 strE _ w.heap.size w (Nat.le_refl _) _ ⟨Nat.le_refl _, by simp⟩, (Below.refl _ _).alloc (Nat.le_refl _) _⟩
  have HSL := Lib.hid hsl
  clear hsl
  go_enter Tryd.func19, Tryd.ntmps19
  go_wp2_with fail
  go_loopw [5, 6, 7] (fun ov fv iv wr => ∃ (i f n c : Nat) (A : Option Addr) (P : List (List UInt8)), i ≤ s.size + 1 ∧ iv = .int .i64 i ∧ fv = .int .i64 f ∧ ov = .slice A n c ∧ Coll w A n c P wr ∧ n ≤ f ∧ f ≤ i ∧ P.length = n ∧ (i ≤ s.size → Seg by_ s.data.toList P f i) ∧ (i = s.size + 1 → P = splitB by_ s.data.toList)) (fun _ _ iv _ => s.size + 1 - (intOf iv).toNat)
  case atStart => exact ⟨0, 0, 0, 0, _, [], by omega, rfl, rfl, rfl, C0.out, Nat.le_refl _, Nat.le_refl _, rfl, fun _ => Seg.start _ _, fun h => by omega⟩
  case round =>
    obtain ⟨i, f, n, c, A, P, hin, rfl, rfl, rfl, hC, hnf, hfi, hPn, hseg, hend⟩ := hrel
    have HC := Lib.hid hC
    have HP := Lib.hid hPn
    clear hC hPn C0
    by_cases hlt : i ≤ s.size
    · have HS := Lib.hid (hseg hlt)
      have hlw : w.heap.size ≤ wr.heap.size := HC.out.2.size
      clear hseg hend
      by_cases he : i = s.size
      · subst he
        go_wp2_with (at_builtin; refine wpList_append_new _ strE rfl _ _ 36 rfl 9 i0 (.string ⟨#[]⟩) 16 Tryd.underlying36 hi hz0 hz1 rfl hz2 w.heap.size A n c (P.map toB) _ rfl (HC.out.1.below ((Below.refl _ _).alloc (Nat.le_refl _) _)) _ 1 (s.extract f s.size) [.string (s.extract f s.size)] rfl (Rd.lit1 _ _ _) (fun _ => rfl) ?h63 ?hby ?hlo ?_; (case h63 => (unfold maxLen; omega)); (case hby => omega); (case hlo => (simp; omega)); intro A3 c3 w3 hG hT; have HN := Lib.hid (HC.out.next (part_last s f) ((HC.out.2.alloc hlw _)) hG hT (by simp)); clear hG hT)
        go_roundw
        case rel => exact ⟨s.size + 1, s.size + 1, n + 1, c3, A3, _, by omega, by go_num, by go_num, rfl, HN.out, by omega, by omega, by rw [List.length_append, HP.out]; rfl, fun h => by omega, fun _ => (HS.out.last (Nat.le_of_eq HSL.out)).symm⟩
        case measure => first | (simp [intOf]; done) | (simp [intOf]; omega)
      · have hlt' : i < s.size := by omega
        have hne : ((i : Int) == (s.size : Int)) = false := by simp; omega
        clear he
        by_cases hb : s[i] = by_
        · have HX : Hid (s.data.toList[i]? = some by_) := Lib.hid (by rw [← hb]; exact at_byte s hlt')
          have hbe : (((s[i]'hlt').toNat : Int) == (by_.toNat : Int)) = true := by rw [hb]; simp
          clear hb
          go_wp2_with (at_builtin; refine wpList_append_new _ strE rfl _ _ 36 rfl 9 i0 (.string ⟨#[]⟩) 16 Tryd.underlying36 hi hz0 hz1 rfl hz2 w.heap.size A n c (P.map toB) _ rfl (HC.out.1.below ((Below.refl _ _).alloc (Nat.le_refl _) _)) _ 1 (s.extract f i) [.string (s.extract f i)] rfl (Rd.lit1 _ _ _) (fun _ => rfl) ?h63 ?hby ?hlo ?_; (case h63 => (unfold maxLen; omega)); (case hby => omega); (case hlo => (simp; omega)); intro A3 c3 w3 hG hT; have HN := Lib.hid (HC.out.next (extract_toB s f i) ((HC.out.2.alloc hlw _)) hG hT (by simp)); clear hG hT)
          go_roundw
          case rel => exact ⟨i + 1, i + 1, n + 1, c3, A3, _, by omega, by go_num, by go_num, rfl, HN.out, by omega, by omega, by rw [List.length_append, HP.out]; rfl, fun _ => HS.out.cut HX.out, fun h => by omega⟩
          case measure => first | (simp [intOf]; done) | (simp [intOf]; omega)
        · have HX := Lib.hid (HS.out.skip (at_byte s hlt') hb)
          have hbe : (((s[i]'hlt').toNat : Int) == (by_.toNat : Int)) = false := by
            simp only [beq_eq_false_iff_ne, ne_eq, Int.natCast_inj]
            exact fun e => hb (UInt8.toNat_inj.1 e)
          clear hb
          go_wp2_with fail
          go_roundw
          case rel => exact ⟨i + 1, f, n, c, A, P, by omega, by go_num, rfl, rfl, HC.out, hnf, by omega, HP.out, fun _ => HX.out, fun h => by omega⟩
          case measure => first | (simp [intOf]; done) | (simp [intOf]; omega)
    · have HE := Lib.hid (hend (by omega))
      clear hseg hend
      go_wp2_with fail
      go_ret
      exact GivesW.ret HC.out.1 HE.out HC.out.2
/-! ### By runes -/
theorem decodeN_wide (n b0 b1 b2 b3 : Nat) (h : 128 ≤ b0) : 1 ≤ (decodeN n b0 b1 b2 b3).2 ∧ (decodeN n b0 b1 b2 b3).2 ≤ 4 ∧ (1 < (decodeN n b0 b1 b2 b3).2 → 1 < n ∧ 128 ≤ b1) ∧ (2 < (decodeN n b0 b1 b2 b3).2 → 2 < n ∧ 128 ≤ b2) ∧ (3 < (decodeN n b0 b1 b2 b3).2 → 3 < n ∧ 128 ≤ b3) := by
  unfold decodeN
  rw [if_neg (by omega)]
  repeat' split
  all_goals (simp only []; omega)
theorem get_byte (s : ByteArray) {i : Nat} (h : i < s.size) : s.get! i = s[i]'h := by simp [ByteArray.get!, getElem!_pos, h]; rfl
/-- A rune that is no ASCII: so are its bytes, and they lie within the string. -/
theorem runeWide (s : ByteArray) (pos : Nat) (h : pos < s.size) (ha : 128 ≤ (s[pos]'h).toNat) :
    128 ≤ (Utf8.decode s pos).1 ∧ 1 ≤ (Utf8.decode s pos).2 ∧ pos + (Utf8.decode s pos).2 ≤ s.size ∧ ∀ (j : Nat) (c : UInt8), pos ≤ j → j < pos + (Utf8.decode s pos).2 → s.data.toList[j]? = some c → 128 ≤ c.toNat := by
  refine ⟨(decode_high s pos h ha).1, ?_⟩
  have hd := decodeN_wide (s.size - pos) (s.get! pos).toNat (s.get! (pos + 1)).toNat (s.get! (pos + 2)).toNat (s.get! (pos + 3)).toNat (by rw [get_byte s h]; exact ha)
  rw [← decode_at] at hd
  generalize (Utf8.decode s pos).2 = k at hd
  obtain ⟨h1, h4, hb1, hb2, hb3⟩ := hd
  refine ⟨h1, by omega, fun j c hj1 hj2 hc => ?_⟩
  have hjs : j < s.size := (List.getElem?_eq_some_iff.1 hc).1
  rw [at_byte s hjs] at hc
  obtain rfl := Option.some.inj hc
  rcases (by omega : j = pos ∨ j = pos + 1 ∨ j = pos + 2 ∨ j = pos + 3) with rfl | rfl | rfl | rfl
  · exact ha
  · rw [← get_byte s hjs]; exact (hb1 (by omega)).2
  · rw [← get_byte s hjs]; exact (hb2 (by omega)).2
  · rw [← get_byte s hjs]; exact (hb3 (by omega)).2
/-- What is collected so far; an iterator stands in block k. -/
def CollI (w : World) (k : Nat) (s : ByteArray) (pos : Nat) (A : Option Addr) (n c : Nat) (P : List (List UInt8)) (wr : World) : Prop :=
  GrowP strE 9 w.heap.size wr A n c (P.map toB) (fun b => w.heap.size ≤ b ∧ b ≠ k ∧ b < wr.heap.size) ∧ Below w.heap.size w wr ∧ w.heap.size ≤ k ∧ wr.heap[k]? = some (.stringIter s pos)
section
variable {w wr : World} {k pos n c : Nat} {s : ByteArray} {A : Option Addr} {P : List (List UInt8)}
theorem CollI.lt (h : CollI w k s pos A n c P wr) : k < wr.heap.size := (Array.getElem?_eq_some_iff.1 h.2.2.2).1
theorem CollI.at_ (h : CollI w k s pos A n c P wr) (pos' : Nat) : CollI w k s pos' A n c P (wr.iterAt k s pos') := by
  refine ⟨?_, below_iterAt h.2.1 h.2.2.1 s pos', h.2.2.1, iterAt_heap wr k s pos pos' h.2.2.2⟩
  rw [iterAt_size]
  exact h.1.same fun b hb _ => iterAt_other wr k b s pos' hb.2.1
theorem CollI.next {o w3 : World} {A3 : Option Addr} {c3 : Nat} {x : ByteArray} {p : List UInt8} (h : CollI w k s pos A n c P wr) (hx : x = toB p) (ho : Below wr.heap.size wr o)
    (hG : GrowP strE 9 w.heap.size w3 A3 (n + 1) c3 (P.map toB ++ [x]) (fun b => (w.heap.size ≤ b ∧ b ≠ k ∧ b < wr.heap.size) ∨ (o.heap.size ≤ b ∧ b < w3.heap.size))) (ht : Touch (fun b => w.heap.size ≤ b ∧ b ≠ k ∧ b < wr.heap.size) o w3) : CollI w k s pos A3 (n + 1) c3 (P ++ [p]) w3 := by
  subst hx
  have h1 := ht.size
  have h2 := ho.size
  have h3 := h.lt
  have h4 := h.2.1.size
  have hb : Below w.heap.size w o := h.2.1.trans (ho.mono h4)
  refine ⟨?_, hb.trans (ht.below (fun b hb => hb.1) (by omega)), h.2.2.1, ?_⟩
  · rw [List.map_append]
    refine hG.mono (fun b hb2 => ?_)
    rcases hb2 with hb2 | hb2
    · exact ⟨hb2.1, hb2.2.1, by omega⟩
    · exact ⟨by omega, by omega, hb2.2⟩
  · rw [ht.block k (by omega) (fun hk => hk.2.1 rfl), ho.block k h3]
    exact h.2.2.2
end
theorem Coll.iter {w wr : World} {A : Option Addr} {n c : Nat} {P : List (List UInt8)} (h : Coll w A n c P wr) (s : ByteArray) (pos : Nat) : CollI w wr.heap.size s pos A n c P (wr.iter s pos) :=
  ⟨(h.1.below ((Below.refl _ _).alloc (Nat.le_refl _) _)).mono (fun b hb => ⟨hb.1, by omega, by show _ < (wr.alloc _).heap.size; rw [World.size_alloc]; omega⟩), h.2.alloc h.2.size _, h.2.size, World.iter_heap wr s pos⟩
set_option maxRecDepth 100000 in
set_option maxHeartbeats 4000000 in
theorem implSplit (s : ByteArray) (sep : UInt8) (w : World) (hs : s.size ≤ 1099511627776) (hsep : sep.toNat < 128) : Calls Tryd.prog 23 #[.string s, .int .i32 sep.toNat] w (GivesW (splitB sep s.data.toList) w) := by
  obtain ⟨i0, hi, hz0, hz1, hz2⟩ := info_parts infoStr
  have HSL : Hid (s.data.toList.length = s.size) := Lib.hid rfl
  have C0 : Hid (Coll w (some ⟨w.heap.size, 0, none⟩) 0 0 [] (w.alloc (.cells #[] 9))) := Lib.hid ⟨GrowP.lit0 strE _ w.heap.size w (Nat.le_refl _) _ ⟨Nat.le_refl _, by simp⟩, (Below.refl _ _).alloc (Nat.le_refl _) _⟩
  have C1 := Lib.hid (C0.out.iter s 0)
  go_enter Tryd.func23, Tryd.ntmps23
  go_wp2_with fail
  go_loopw [5, 6] (fun ov fv wr => ∃ (i f n c : Nat) (A : Option Addr) (P : List (List UInt8)), i ≤ s.size ∧ fv = .int .i64 f ∧ ov = .slice A n c ∧ CollI w (w.heap.size + 1) s i A n c P wr ∧ n ≤ f ∧ f ≤ i ∧ P.length = n ∧ Seg sep s.data.toList P f i) (fun _ _ wr => s.size - wr.iterPos (w.heap.size + 1))
  case atStart => exact ⟨0, 0, 0, 0, _, [], Nat.zero_le _, rfl, rfl, by have := C1.out; simpa using this, Nat.le_refl _, Nat.le_refl _, rfl, Seg.start _ _⟩
  case round =>
    obtain ⟨i, f, n, c, A, P, hin, rfl, rfl, hC0, hnf, hfi, hPn, hseg⟩ := hrel
    have HC0 := Lib.hid hC0
    have HP := Lib.hid hPn
    have HS := Lib.hid hseg
    have hkk := Lib.hid hC0.2.2.2
    clear hC0 hPn hseg C0 C1
    by_cases hlt : i < s.size
    · by_cases ha : (s[i]'hlt).toNat < 128
      · have HC := Lib.hid (HC0.out.at_ (i + 1))
        have hnx : ∀ ty, (Instr.next (.pointer (some ⟨w.heap.size + 1, 0, none⟩)) true ty).run Tryd.prog wr = _ := fun ty => run_next_ascii_at wr (w.heap.size + 1) s i ty hkk.out hlt ha
        have hlw : w.heap.size ≤ (wr.iterAt (w.heap.size + 1) s (i + 1)).heap.size := HC.out.2.1.size
        generalize wr.iterAt (w.heap.size + 1) s (i + 1) = wq at *
        by_cases hb : s[i] = sep
        · have HX : Hid (s.data.toList[i]? = some sep) := Lib.hid (by rw [← hb]; exact at_byte s hlt)
          have hbe : (((s[i]'hlt).toNat : Int) == (sep.toNat : Int)) = true := by rw [hb]; simp
          clear hb
          go_wp2_with (at_builtin; refine wpList_append_new _ strE rfl _ _ 36 rfl 9 i0 (.string ⟨#[]⟩) 16 Tryd.underlying36 hi hz0 hz1 rfl hz2 w.heap.size A n c (P.map toB) _ rfl (HC.out.1.below ((Below.refl _ _).alloc (Nat.le_refl _) _)) _ 1 (s.extract f i) [.string (s.extract f i)] rfl (Rd.lit1 _ _ _) (fun _ => rfl) ?h63 ?hby ?hlo ?_; (case h63 => (unfold maxLen; omega)); (case hby => omega); (case hlo => (simp; omega)); intro A3 c3 w3 hG hT; have HN := Lib.hid (HC.out.next (extract_toB s f i) ((Below.refl _ _).alloc (Nat.le_refl _) _) hG hT); clear hG hT)
          go_roundw
          case rel => exact ⟨i + 1, i + 1, n + 1, c3, A3, _, by omega, by go_num, rfl, HN.out, by omega, by omega, by rw [List.length_append, HP.out]; rfl, HS.out.cut HX.out⟩
          case measure => rw [iterPos_of HN.out.2.2.2, iterPos_of hkk.out]; omega
        · have HX := Lib.hid (HS.out.skip (at_byte s hlt) hb)
          have hbe : (((s[i]'hlt).toNat : Int) == (sep.toNat : Int)) = false := by
            simp only [beq_eq_false_iff_ne, ne_eq, Int.natCast_inj]
            exact fun e => hb (UInt8.toNat_inj.1 e)
          clear hb
          go_wp2_with fail
          go_roundw
          case rel => exact ⟨i + 1, f, n, c, A, P, by omega, rfl, rfl, HC.out, hnf, by omega, HP.out, HX.out⟩
          case measure => rw [iterPos_of HC.out.2.2.2, iterPos_of hkk.out]; omega
      · obtain ⟨r1, r2, r3, r4⟩ := runeWide s i hlt (by omega)
        have HC := Lib.hid (HC0.out.at_ (i + (Utf8.decode s i).2))
        have hnx : ∀ ty, (Instr.next (.pointer (some ⟨w.heap.size + 1, 0, none⟩)) true ty).run Tryd.prog wr = _ := fun ty => run_next_any_at wr (w.heap.size + 1) s i ty hkk.out hlt
        have HX := Lib.hid (HS.out.far (Utf8.decode s i).2 (fun j c h1 h2 h3 e => by have := r4 j c h1 h2 h3; rw [e] at this; omega) (by rw [HSL.out]; exact r3))
        generalize wr.iterAt (w.heap.size + 1) s (i + (Utf8.decode s i).2) = wq at *
        generalize (Utf8.decode s i).1 = r at *
        generalize (Utf8.decode s i).2 = wd at *
        have hbe : ((r : Int) == (sep.toNat : Int)) = false := by simp; omega
        clear r4
        go_wp2_with fail
        go_roundw
        case rel => exact ⟨i + wd, f, n, c, A, P, r3, rfl, rfl, HC.out, hnf, by omega, HP.out, HX.out⟩
        case measure => rw [iterPos_of HC.out.2.2.2, iterPos_of hkk.out]; omega
    · have hnx : ∀ ty, (Instr.next (.pointer (some ⟨w.heap.size + 1, 0, none⟩)) true ty).run Tryd.prog wr = _ := fun ty => run_next_end_at wr (w.heap.size + 1) s i ty hkk.out hlt
      have HX := Lib.hid (HS.out.last (by rw [HSL.out]; omega))
      have HC := HC0
      have hlw : w.heap.size ≤ wr.heap.size := HC.out.2.1.size
      go_wp2_with (at_builtin; refine wpList_append_new _ strE rfl _ _ 36 rfl 9 i0 (.string ⟨#[]⟩) 16 Tryd.underlying36 hi hz0 hz1 rfl hz2 w.heap.size A n c (P.map toB) _ rfl (HC.out.1.below ((Below.refl _ _).alloc (Nat.le_refl _) _)) _ 1 (s.extract f s.size) [.string (s.extract f s.size)] rfl (Rd.lit1 _ _ _) (fun _ => rfl) ?h63 ?hby ?hlo ?_; (case h63 => (unfold maxLen; omega)); (case hby => omega); (case hlo => (simp; omega)); intro A3 c3 w3 hG hT; have HN := Lib.hid (HC.out.next (part_last s f) ((Below.refl _ _).alloc (Nat.le_refl _) _) hG hT); clear hG hT)
      go_ret
      exact GivesW.ret (P := P ++ [s.data.toList.drop f]) HN.out.1 HX.out.symm HN.out.2.1
end Go.Proofs.YthgcodbcafpmhaaDoor
