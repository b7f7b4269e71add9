/- Scripts as plain functions of data.
   Chapter 7 as plain functions: the text of a library, and that a text has at most one.
   Chapter 7 as plain functions: how the program reads a library: leniently, and then by writing it again.
   The text of a script as plain functions: the lines so far. -/
import Derived.Test.YtgibhbplgiejpaaGreatData
import Derived.Test.YtgibhbplgiejpaaGreatInsA
import Derived.Test.YtgibhbplgiejpaaGreatTxtA
import Derived.Test.YtgibhbplgiejpaaGreatTyA
import Derived.Lib.Join
namespace Go.Proofs.YtgibhbplgiejpaaGreat
open Go.RowKit
def nameOf : Dat → ByteArray
  | .r (.s n :: _) => n
  | _ => ⟨#[]⟩
def insOf : Dat → I
  | .r [.i op, .i a, .i b, .i c, .i d, .s nm] => ⟨op, a, b, c, d, nm⟩
  | _ => ⟨0, 0, 0, 0, 0, ⟨#[]⟩⟩
def codeOf : Dat → List Dat
  | .r [.s _, .l code] => code
  | _ => []
def isInsD (d : Dat) : Bool := isI (insOf d)
def isMeth (d : Dat) : Bool := (codeOf d).all isInsD && isName (nameOf d) && decide ((codeOf d).length ≤ 12)
/-- No name stands twice. -/
def apart (L : List Dat) : Bool := decide ((L.map nameOf).Pairwise (· ≠ ·))
def isScr (d : Dat) : Bool := (codeOf d).all isMeth && apart (codeOf d) && isName (nameOf d) && decide ((codeOf d).length ≤ 4)
def isLib (L : List Dat) : Bool := L.all isScr && apart L && decide (L.length ≤ 6)
def findFrom : List Dat → ByteArray → Int → Int
  | [], _, _ => -1
  | d :: L, nm, i => if nameOf d = nm then i else findFrom L nm (i + 1)
def find (L : List Dat) (nm : ByteArray) : Int := findFrom L nm 0
theorem findFrom_at : ∀ {L : List Dat} {nm : ByteArray} {i : Nat} {k : Int} {d : Dat}, (∀ (j : Nat) (e : Dat), j < i → L[j]? = some e → ¬ nameOf e = nm) → L[i]? = some d → nameOf d = nm → findFrom L nm k = k + i
  | [], _, _, _, _, _, h, _ => by simp at h
  | x :: L, nm, 0, k, d, _, h, hn => by
    obtain rfl : x = d := by simpa using h
    rw [findFrom, if_pos hn]; simp
  | x :: L, nm, i + 1, k, d, h0, h, hn => by
    rw [findFrom, if_neg (h0 0 x (by omega) rfl), findFrom_at (i := i) (fun j e hj he => h0 (j + 1) e (by omega) (by simpa using he)) (by simpa using h) hn]
    omega
theorem findFrom_none : ∀ {L : List Dat} {nm : ByteArray} {k : Int}, (∀ (j : Nat) (e : Dat), L[j]? = some e → ¬ nameOf e = nm) → findFrom L nm k = -1
  | [], _, _, _ => rfl
  | x :: L, nm, k, h0 => by
    rw [findFrom, if_neg (h0 0 x rfl)]
    exact findFrom_none (fun j e he => h0 (j + 1) e (by simpa using he))
theorem find_at {L : List Dat} {nm : ByteArray} {i : Nat} {d : Dat} (h : ∀ (j : Nat) (e : Dat), j < i → L[j]? = some e → ¬ nameOf e = nm) (hd : L[i]? = some d) (hn : nameOf d = nm) : (i : Int) = find L nm := by
  rw [find, findFrom_at h hd hn]; simp
theorem find_none {L : List Dat} {nm : ByteArray} (h : ∀ (j : Nat) (e : Dat), L[j]? = some e → ¬ nameOf e = nm) : -1 = find L nm := (findFrom_none h).symm
def ends (d : Dat) : Bool := match (codeOf d).getLast? with
  | some x => decide ((insOf x).op = 10)
  | none => false
theorem bytes_ne {a b : ByteArray} (h : ¬ a = b) : ¬ a.toList = b.toList := fun e => h (by
  rw [ByteArray.toList_eq, ByteArray.toList_eq] at e
  obtain ⟨⟨x⟩⟩ := a
  obtain ⟨⟨y⟩⟩ := b
  simp only at e
  subst e
  rfl)
theorem bytes_neb {a b : ByteArray} (h : ¬ a = b) : (a.toList == b.toList) = false := by simpa using bytes_ne h
end Go.Proofs.YtgibhbplgiejpaaGreat
namespace Go.Proofs.YtgibhbplgiejpaaGreat
open Go.RowKit Go.Lib
set_option linter.unusedSimpArgs false
set_option linter.unusedVariables false
structure Meth where
  name : ByteArray
  code : List I
structure Scr where
  name : ByteArray
  ms : List Meth
def okM (m : Meth) : Bool := m.code.all isI && isName m.name && decide (m.code.length ≤ 12)
def okS (s : Scr) : Bool := s.ms.all okM && decide ((s.ms.map Meth.name).Pairwise (· ≠ ·)) && isName s.name && decide (s.ms.length ≤ 4)
def okL (L : List Scr) : Bool := L.all okS && decide ((L.map Scr.name).Pairwise (· ≠ ·)) && decide (L.length ≤ 6)
/-! ### Lines -/
def scriptW : List UInt8 := [115, 99, 114, 105, 112, 116]
def methodW : List UInt8 := [109, 101, 116, 104, 111, 100]
def lineS (n : ByteArray) : List UInt8 := scriptW ++ 32 :: nameW n
def lineM (n : ByteArray) : List UInt8 := methodW ++ 32 :: nameW n
def linesM (m : Meth) : List (List UInt8) := lineM m.name :: m.code.map fmtI
def linesS (s : Scr) : List (List UInt8) := lineS s.name :: s.ms.flatMap linesM
def linesL (L : List Scr) : List (List UInt8) := L.flatMap linesS
def endL (ls : List (List UInt8)) : List UInt8 := ls.flatMap (· ++ [10])
def fmtS (s : Scr) : List UInt8 := if okS s then endL (linesS s) else []
def fmtL (L : List Scr) : List UInt8 := if okL L then endL (linesL L) else []
theorem endL_append (a b : List (List UInt8)) : endL (a ++ b) = endL a ++ endL b := List.flatMap_append
theorem endL_all {L : List Scr} (h : L.all okS = true) : L.flatMap fmtS = endL (linesL L) := by
  induction L with
  | nil => rfl
  | cons s L ih =>
    simp only [List.all_cons, Bool.and_eq_true] at h
    rw [List.flatMap_cons, ih h.2, fmtS, if_pos h.1, linesL, linesL, List.flatMap_cons, endL_append]
theorem fmtL_each {L : List Scr} (h : okL L = true) : fmtL L = L.flatMap fmtS := by
  rw [fmtL, if_pos h]
  simp only [okL, Bool.and_eq_true] at h
  exact (endL_all h.1.1).symm
theorem split_end : ∀ {ls : List (List UInt8)}, (∀ l ∈ ls, (10 : UInt8) ∉ l) → splitB 10 (endL ls) = ls ++ [[]]
  | [], _ => rfl
  | l :: ls, h => by
    show splitB 10 ((l ++ [10]) ++ endL ls) = _
    rw [List.append_assoc, List.singleton_append, split_cons (h l (by simp)), split_end (fun x hx => h x (List.mem_cons_of_mem _ hx))]
    rfl
/-! ### Reading lines -/
def onLast {α : Type} (f : α → Option α) : List α → Option (List α)
  | [] => none
  | [x] => (f x).map ([·])
  | x :: y :: ys => (onLast f (y :: ys)).map (x :: ·)
theorem onLast_snoc {α : Type} (f : α → Option α) (x : α) : ∀ L : List α, onLast f (L ++ [x]) = (f x).map (fun y => L ++ [y])
  | [] => rfl
  | [a] => by
    show ((f x).map ([·])).map (a :: ·) = _
    rw [Option.map_map]; rfl
  | a :: b :: L => by
    show (onLast f ((b :: L) ++ [x])).map (a :: ·) = _
    rw [onLast_snoc f x (b :: L), Option.map_map]; rfl
def addM (x : I) (m : Meth) : Option Meth := some ⟨m.name, m.code ++ [x]⟩
def addS (x : I) (s : Scr) : Option Scr := (onLast (addM x) s.ms).map (fun ms => ⟨s.name, ms⟩)
def newM (n : ByteArray) (s : Scr) : Option Scr := some ⟨s.name, s.ms ++ [⟨n, []⟩]⟩
def addL (L : List Scr) (line : List UInt8) : Option (List Scr) :=
  if 7 < line.length ∧ line.take 7 = scriptW ++ [32] then some (L ++ [⟨⟨(line.drop 7).toArray⟩, []⟩])
  else if L ≠ [] ∧ 7 < line.length ∧ line.take 7 = methodW ++ [32] then onLast (newM ⟨(line.drop 7).toArray⟩) L
  else match parseI line with
    | none => none
    | some x => onLast (addS x) L
def foldL : List (List UInt8) → List Scr → Option (List Scr)
  | [], L => some L
  | l :: ls, L => match addL L l with
    | none => none
    | some L' => foldL ls L'
/-- The library with this text. -/
def parseL (s : List UInt8) : Option (List Scr) :=
  if 4000 < s.length then none
  else match foldL (splitB 10 s).dropLast [] with
    | none => none
    | some L => if okL L = true ∧ fmtL L = s then some L else none
theorem foldL_cons {l : List UInt8} {ls : List (List UInt8)} {L L' : List Scr} (h : addL L l = some L') : foldL (l :: ls) L = foldL ls L' := by rw [foldL, h]
theorem name_pos {n : ByteArray} (h : isName n = true) : 1 ≤ (nameW n).length := by
  simp only [isName, Bool.and_eq_true] at h
  have h1 := inR_ge h.1
  have : (nameW n).length = n.size := rfl
  omega
theorem add_script {n : ByteArray} (L : List Scr) (h : isName n = true) : addL L (lineS n) = some (L ++ [⟨n, []⟩]) := by
  have h1 := name_pos h
  have hl : 7 < (lineS n).length := by
    show 7 < (scriptW ++ 32 :: nameW n).length
    simp only [scriptW, List.length_append, List.length_cons, List.length_nil]
    omega
  rw [addL, if_pos ⟨hl, rfl⟩]
  rfl
theorem add_method {n : ByteArray} (L : List Scr) (s : Scr) (h : isName n = true) : addL (L ++ [s]) (lineM n) = some (L ++ [⟨s.name, s.ms ++ [⟨n, []⟩]⟩]) := by
  have h1 := name_pos h
  have hl : 7 < (lineM n).length := by
    show 7 < (methodW ++ 32 :: nameW n).length
    simp only [methodW, List.length_append, List.length_cons, List.length_nil]
    omega
  have hne : ¬ (7 < (lineM n).length ∧ (lineM n).take 7 = scriptW ++ [32]) := by
    rintro ⟨-, h2⟩
    have h3 : methodW ++ [32] = scriptW ++ [32] := h2
    revert h3
    decide
  rw [addL, if_neg hne, if_pos ⟨by simp, hl, rfl⟩, onLast_snoc]
  rfl
/-- A line that begins with these seven bytes begins with that word. -/
theorem word_first {l w : List UInt8} (h : l.take 7 = w ++ [32]) (hw : (32 : UInt8) ∉ w) : ∃ ws, splitB 32 l = w :: ws := by
  have e : l = w ++ 32 :: l.drop 7 := by
    have h1 := (List.take_append_drop 7 l).symm
    rw [h] at h1
    simpa using h1
  rw [e, split_cons hw]
  exact ⟨_, rfl⟩
theorem words_head (x : I) : ∃ ws, wordsI x = nameW (opName x.op) :: ws := by
  unfold wordsI
  split
  · exact ⟨_, rfl⟩
  · split
    · exact ⟨_, rfl⟩
    · split
      · exact ⟨_, rfl⟩
      · split
        · exact ⟨_, rfl⟩
        · exact ⟨_, rfl⟩
theorem op_word (op : Int) : nameW (opName op) ≠ scriptW ∧ nameW (opName op) ≠ methodW := by
  rcases opCases op with rfl | rfl | rfl | rfl | rfl | rfl | rfl | rfl | rfl | rfl | h0
  all_goals first
    | decide
    | (have : opName op = ⟨#[]⟩ := by
        unfold opName
        repeat (rw [if_neg (by omega)])
       rw [this]; decide)
theorem fmtI_first {x : I} {w : List UInt8} (h : isI x = true) (hw : (32 : UInt8) ∉ w) (ht : (fmtI x).take 7 = w ++ [32]) : nameW (opName x.op) = w := by
  obtain ⟨ws, h1⟩ := word_first ht hw
  obtain ⟨vs, h2⟩ := words_head x
  have h3 := words_ok h
  rw [fmtI, if_pos h, split_join h3.2.1 (fun w hm => (h3.1 w hm).sp), h2] at h1
  exact (List.cons.inj h1).1
theorem add_instr {x : I} (L : List Scr) (n mn : ByteArray) (ms : List Meth) (c : List I) (h : isI x = true) :
    addL (L ++ [⟨n, ms ++ [⟨mn, c⟩]⟩]) (fmtI x) = some (L ++ [⟨n, ms ++ [⟨mn, c ++ [x]⟩]⟩]) := by
  have h1 : ¬ (7 < (fmtI x).length ∧ (fmtI x).take 7 = scriptW ++ [32]) := fun ⟨_, e⟩ => (op_word x.op).1 (fmtI_first h (by decide) e)
  have h2 : ¬ (L ++ [(⟨n, ms ++ [⟨mn, c⟩]⟩ : Scr)] ≠ [] ∧ 7 < (fmtI x).length ∧ (fmtI x).take 7 = methodW ++ [32]) := fun ⟨_, _, e⟩ => (op_word x.op).2 (fmtI_first h (by decide) e)
  rw [addL, if_neg h1, if_neg h2, parse_iff.2 ⟨h, rfl⟩]
  show onLast (addS x) _ = _
  rw [onLast_snoc, addS, onLast_snoc]
  rfl
theorem fold_code (rest : List (List UInt8)) (L : List Scr) (n mn : ByteArray) (ms : List Meth) : ∀ (code c : List I), code.all isI = true →
    foldL (code.map fmtI ++ rest) (L ++ [⟨n, ms ++ [⟨mn, c⟩]⟩]) = foldL rest (L ++ [⟨n, ms ++ [⟨mn, c ++ code⟩]⟩])
  | [], c, _ => by simp
  | x :: code, c, h => by
    simp only [List.all_cons, Bool.and_eq_true] at h
    rw [List.map_cons, List.cons_append, foldL_cons (add_instr L n mn ms c h.1), fold_code rest L n mn ms code (c ++ [x]) h.2, List.append_assoc]
    rfl
theorem fold_meth (rest : List (List UInt8)) (L : List Scr) (n : ByteArray) (ms : List Meth) (m : Meth) (h : okM m = true) :
    foldL (linesM m ++ rest) (L ++ [⟨n, ms⟩]) = foldL rest (L ++ [⟨n, ms ++ [m]⟩]) := by
  simp only [okM, Bool.and_eq_true] at h
  rw [linesM, List.cons_append, foldL_cons (add_method L ⟨n, ms⟩ h.1.2)]
  exact fold_code rest L n m.name ms m.code [] h.1.1
theorem fold_meths (rest : List (List UInt8)) (L : List Scr) (n : ByteArray) : ∀ (M ms : List Meth), M.all okM = true →
    foldL (M.flatMap linesM ++ rest) (L ++ [⟨n, ms⟩]) = foldL rest (L ++ [⟨n, ms ++ M⟩])
  | [], ms, _ => by simp
  | m :: M, ms, h => by
    simp only [List.all_cons, Bool.and_eq_true] at h
    rw [List.flatMap_cons, List.append_assoc, fold_meth _ L n ms m h.1, fold_meths rest L n M (ms ++ [m]) h.2, List.append_assoc]
    rfl
theorem fold_scr (rest : List (List UInt8)) (L : List Scr) (s : Scr) (h : okS s = true) : foldL (linesS s ++ rest) L = foldL rest (L ++ [s]) := by
  simp only [okS, Bool.and_eq_true] at h
  rw [linesS, List.cons_append, foldL_cons (add_script L h.1.2)]
  exact fold_meths rest L s.name s.ms [] h.1.1.1
theorem fold_scrs (rest : List (List UInt8)) : ∀ (M L : List Scr), M.all okS = true → foldL (linesL M ++ rest) L = foldL rest (L ++ M)
  | [], L, _ => by simp [linesL]
  | s :: M, L, h => by
    simp only [List.all_cons, Bool.and_eq_true] at h
    rw [linesL, List.flatMap_cons, List.append_assoc, fold_scr _ L s h.1]
    show foldL (linesL M ++ rest) (L ++ [s]) = _
    rw [fold_scrs rest M (L ++ [s]) h.2, List.append_assoc]
    rfl
/-! ### No newline within a line -/
theorem join_nl : ∀ {ws : List (List UInt8)}, (∀ w ∈ ws, Calm w) → (10 : UInt8) ∉ joinW 32 ws
  | [], _ => by simp [joinW]
  | [w], h => (h w (by simp)).nl
  | w :: v :: ws, h => by
    rw [joinW]
    intro hm
    rcases List.mem_append.1 hm with hm | hm
    · exact (h w (by simp)).nl hm
    · rcases List.mem_cons.1 hm with e | hm
      · revert e; decide
      · exact join_nl (fun x hx => h x (List.mem_cons_of_mem _ hx)) hm
theorem fmtI_nl {x : I} (h : isI x = true) : (10 : UInt8) ∉ fmtI x := by
  rw [fmtI, if_pos h]
  exact join_nl (words_ok h).1
theorem line_nl {w : List UInt8} {n : ByteArray} (hw : (10 : UInt8) ∉ w) (h : isName n = true) : (10 : UInt8) ∉ w ++ 32 :: nameW n := by
  intro hm
  rcases List.mem_append.1 hm with hm | hm
  · exact hw hm
  · rcases List.mem_cons.1 hm with e | hm
    · revert e; decide
    · exact (calm_name h).nl hm
theorem lines_nl {L : List Scr} (h : L.all okS = true) : ∀ l ∈ linesL L, (10 : UInt8) ∉ l := by
  intro l hl
  obtain ⟨s, hs, hl⟩ := List.mem_flatMap.1 hl
  have h1 := List.all_eq_true.1 h s hs
  simp only [okS, Bool.and_eq_true] at h1
  rcases List.mem_cons.1 hl with rfl | hl
  · exact line_nl (by decide) h1.1.2
  · obtain ⟨m, hm, hl⟩ := List.mem_flatMap.1 hl
    have h2 := List.all_eq_true.1 h1.1.1.1 m hm
    simp only [okM, Bool.and_eq_true] at h2
    rcases List.mem_cons.1 hl with rfl | hl
    · exact line_nl (by decide) h2.1.2
    · obtain ⟨x, hx, rfl⟩ := List.mem_map.1 hl
      exact fmtI_nl (List.all_eq_true.1 h2.1.1 x hx)
/-- The lines of a valid library's text give it back. -/
theorem fold_fmt {L : List Scr} (h : okL L = true) : foldL (splitB 10 (fmtL L)).dropLast [] = some L := by
  rw [fmtL, if_pos h]
  simp only [okL, Bool.and_eq_true] at h
  rw [split_end (lines_nl h.1.1), List.dropLast_concat]
  have := fold_scrs [] L [] h.1.1
  rw [List.append_nil] at this
  rw [this]
  rfl
theorem fmtL_inj {L M : List Scr} (hL : okL L = true) (hM : okL M = true) (h : fmtL L = fmtL M) : L = M := by
  have h1 := fold_fmt hL
  rw [h, fold_fmt hM] at h1
  exact (Option.some.inj h1).symm
theorem parseL_iff {s : List UInt8} {L : List Scr} : parseL s = some L ↔ s.length ≤ 4000 ∧ okL L = true ∧ fmtL L = s := by
  constructor
  · intro h
    unfold parseL at h
    split at h
    · cases h
    · split at h
      · cases h
      · split at h
        · rename_i h0 _ _ _ h1
          cases h
          exact ⟨by omega, h1⟩
        · cases h
  · rintro ⟨h0, h, rfl⟩
    unfold parseL
    rw [if_neg (by omega), fold_fmt h]
    exact if_pos ⟨h, rfl⟩
/-! ### Data -/
def datI (x : I) : Dat := .r [.i x.op, .i x.a, .i x.b, .i x.c, .i x.d, .s x.name]
def datM (m : Meth) : Dat := .r [.s m.name, .l (m.code.map datI)]
def datS (s : Scr) : Dat := .r [.s s.name, .l (s.ms.map datM)]
theorem isMeth_dat (m : Meth) : isMeth (datM m) = okM m := by
  show ((m.code.map datI).all isInsD && isName m.name && decide ((m.code.map datI).length ≤ 12)) = _
  rw [List.all_map, List.length_map]
  rfl
theorem apart_dat (L : List Meth) : apart (L.map datM) = decide ((L.map Meth.name).Pairwise (· ≠ ·)) := by
  unfold apart
  rw [List.map_map]
  rfl
theorem isScr_dat (s : Scr) : isScr (datS s) = okS s := by
  show ((s.ms.map datM).all isMeth && apart (s.ms.map datM) && isName s.name && decide ((s.ms.map datM).length ≤ 4)) = _
  rw [List.all_map, List.length_map, apart_dat, okS]
  congr 4
  funext m
  exact isMeth_dat m
theorem isLib_dat (L : List Scr) : isLib (L.map datS) = okL L := by
  unfold isLib apart okL
  rw [List.all_map, List.length_map, List.map_map]
  congr 4
  funext s
  exact isScr_dat s
theorem map_of {α β : Type} {f : α → β} : ∀ {L : List β}, (∀ x ∈ L, ∃ y, x = f y) → ∃ M : List α, L = M.map f
  | [], _ => ⟨[], rfl⟩
  | x :: L, h => by
    obtain ⟨y, rfl⟩ := h x (by simp)
    obtain ⟨M, rfl⟩ := map_of (L := L) (fun z hz => h z (List.mem_cons_of_mem _ hz))
    exact ⟨y :: M, rfl⟩
theorem has_datI {d : Dat} (h : Has tyInstr d) : ∃ x, d = datI x := by
  simp only [tyInstr, Has, HasAll] at h
  obtain ⟨ds, rfl, _, _, rfl, ⟨f0, rfl, -⟩, _, _, rfl, ⟨f1, rfl, -⟩, _, _, rfl, ⟨f2, rfl, -⟩, _, _, rfl, ⟨f3, rfl, -⟩, _, _, rfl, ⟨f4, rfl, -⟩, _, _, rfl, ⟨f5, rfl, -⟩, rfl⟩ := h
  exact ⟨⟨f0, f1, f2, f3, f4, f5⟩, rfl⟩
theorem has_datM {d : Dat} (h : Has tyMethod d) : ∃ m, d = datM m := by
  simp only [tyMethod, Has, HasAll] at h
  obtain ⟨ds, rfl, d0, r0, rfl, ⟨f0, rfl, hf0⟩, d1, r1, rfl, ⟨L1, rfl, hm1, ht1⟩, rfl⟩ := h
  obtain ⟨M, rfl⟩ := map_of (f := datI) (fun x hx => has_datI (ht1 x hx))
  exact ⟨⟨f0, M⟩, rfl⟩
theorem has_datS {d : Dat} (h : Has tyScript d) : ∃ s, d = datS s := by
  simp only [tyScript, Has, HasAll] at h
  obtain ⟨ds, rfl, d0, r0, rfl, ⟨f0, rfl, hf0⟩, d1, r1, rfl, ⟨L1, rfl, hm1, ht1⟩, rfl⟩ := h
  obtain ⟨M, rfl⟩ := map_of (f := datM) (fun x hx => has_datM (ht1 x hx))
  exact ⟨⟨f0, M⟩, rfl⟩
theorem has_datL {L : List Dat} (h : ∀ x ∈ L, Has tyScript x) : ∃ M : List Scr, L = M.map datS := map_of (fun x hx => has_datS (h x hx))
end Go.Proofs.YtgibhbplgiejpaaGreat
namespace Go.Proofs.YtgibhbplgiejpaaGreat
open Go.RowKit Go.Lib
set_option linter.unusedSimpArgs false
set_option linter.unusedVariables false
/-! ### Lines read -/
def modLast {α : Type} (f : α → α) : List α → List α
  | [] => []
  | [x] => [f x]
  | x :: y :: ys => x :: modLast f (y :: ys)
theorem modLast_snoc {α : Type} (f : α → α) (x : α) : ∀ L : List α, modLast f (L ++ [x]) = L ++ [f x]
  | [] => rfl
  | [a] => rfl
  | a :: b :: L => by
    show a :: modLast f ((b :: L) ++ [x]) = _
    rw [modLast_snoc f x (b :: L)]
    rfl
theorem onLast_mod {α : Type} {f : α → Option α} {g : α → α} (h : ∀ x y, f x = some y → g x = y) : ∀ {L M : List α}, onLast f L = some M → modLast g L = M
  | [], _, e => by cases e
  | [x], M, e => by
    simp only [onLast, Option.map_eq_some_iff] at e
    obtain ⟨y, hy, rfl⟩ := e
    show [g x] = [y]
    rw [h x y hy]
  | x :: y :: ys, M, e => by
    simp only [onLast, Option.map_eq_some_iff] at e
    obtain ⟨N, hN, rfl⟩ := e
    show x :: modLast g (y :: ys) = x :: N
    rw [onLast_mod h hN]
def codeP (x : I) (m : Meth) : Meth := ⟨m.name, m.code ++ [x]⟩
def isHead (w l : List UInt8) : Bool := (w ++ [32]).isPrefixOf l
def putM (l : List UInt8) (ms : List Meth) : List Meth :=
  if isHead methodW l then ms ++ [⟨⟨(l.drop 7).toArray⟩, []⟩]
  else match parseI l with
    | none => ms
    | some x => modLast (codeP x) ms
def lineP (L : List Scr) (l : List UInt8) : List Scr :=
  if isHead scriptW l then L ++ [⟨⟨(l.drop 7).toArray⟩, []⟩] else modLast (fun s => ⟨s.name, putM l s.ms⟩) L
def readP (ls : List (List UInt8)) : List Scr := ls.foldl lineP []
theorem head_of_take {w l : List UInt8} (hw : w.length = 6) (h : l.take 7 = w ++ [32]) : isHead w l = true := by
  unfold isHead
  rw [List.isPrefixOf_iff_prefix]
  exact ⟨l.drop 7, by rw [← h, List.take_append_drop]⟩
theorem take_of_head {w l : List UInt8} (hw : w.length = 6) (h : isHead w l = true) : l.take 7 = w ++ [32] := by
  unfold isHead at h
  rw [List.isPrefixOf_iff_prefix] at h
  obtain ⟨t, rfl⟩ := h
  rw [List.take_append_of_le_length (by simp [hw]), List.take_of_length_le (by simp [hw])]
theorem head_no_instr {w l : List UInt8} {x : I} (hw : w.length = 6) (hb : (32 : UInt8) ∉ w) (hne : nameW (opName x.op) ≠ w) (hx : isI x = true) (h : fmtI x = l) : isHead w l = false := by
  cases hh : isHead w l with
  | false => rfl
  | true =>
    exfalso
    have h1 := take_of_head hw hh
    rw [← h] at h1
    exact hne (fmtI_first hx hb h1)
theorem line_add {L M : List Scr} {l : List UInt8} (h : addL L l = some M) : lineP L l = M := by
  unfold addL at h
  split at h
  · rename_i h1
    cases h
    rw [lineP, if_pos (head_of_take rfl h1.2)]
  · split at h
    · rename_i h0 h1
      have hm := head_of_take (w := methodW) rfl h1.2.2
      have hs : isHead scriptW l = false := by
        cases hh : isHead scriptW l with
        | false => rfl
        | true =>
          have h2 := take_of_head (w := scriptW) rfl hh
          rw [h1.2.2] at h2
          revert h2
          decide
      rw [lineP, hs]
      refine onLast_mod (fun x y hy => ?_) h
      cases hy
      rw [putM, if_pos hm]
    · split at h
      · cases h
      · rename_i x hx
        obtain ⟨hi, hf⟩ := parse_iff.1 hx
        rw [lineP, head_no_instr (w := scriptW) rfl (by decide) (op_word x.op).1 hi hf]
        refine onLast_mod (fun s t ht => ?_) h
        unfold addS at ht
        simp only [Option.map_eq_some_iff] at ht
        obtain ⟨ms, hms, rfl⟩ := ht
        rw [putM, head_no_instr (w := methodW) rfl (by decide) (op_word x.op).2 hi hf]
        simp only [hx, if_neg, Bool.false_eq_true, if_false]
        rw [onLast_mod (g := codeP x) (fun m n hn => by cases hn; rfl) hms]
theorem line_fold : ∀ {ls : List (List UInt8)} {L M : List Scr}, foldL ls L = some M → ls.foldl lineP L = M
  | [], L, M, h => by cases h; rfl
  | l :: ls, L, M, h => by
    unfold foldL at h
    split at h
    · cases h
    · rename_i N hN
      rw [List.foldl_cons, line_add hN]
      exact line_fold h
theorem parse_nil : parseI [] = none := by
  cases h : parseI [] with
  | none => rfl
  | some x =>
    obtain ⟨hx, hf⟩ := parse_iff.1 h
    have h1 := cand_fmt hx
    rw [hf] at h1
    have h2 : x.op = 0 := by
      rw [← h1]
      decide
    have := isI_op hx
    omega
theorem modLast_id {α : Type} {f : α → α} (h : ∀ x, f x = x) : ∀ L : List α, modLast f L = L
  | [] => rfl
  | [x] => by show [f x] = [x]; rw [h]
  | x :: y :: ys => by show x :: modLast f (y :: ys) = _; rw [modLast_id h (y :: ys)]
theorem line_nil (L : List Scr) : lineP L [] = L := by
  have hm : ∀ ms, putM [] ms = ms := fun ms => by rw [putM, parse_nil]; rfl
  rw [lineP, show isHead scriptW [] = false by decide, if_neg (by decide)]
  exact modLast_id (fun s => by rw [hm]) L
theorem read_fmt {L : List Scr} (h : okL L = true) : readP (splitB 10 (fmtL L)) = L := by
  have h0 := fold_fmt h
  have h1 : splitB 10 (fmtL L) = (splitB 10 (fmtL L)).dropLast ++ [[]] := by
    rw [fmtL, if_pos h]
    have h2 := h
    simp only [okL, Bool.and_eq_true] at h2
    rw [split_end (lines_nl h2.1.1), List.dropLast_concat]
  rw [readP, h1, List.foldl_append, line_fold h0]
  exact line_nil L
theorem lib_some {s : List UInt8} (h0 : s.length ≤ 4000) (h : okL (readP (splitB 10 s)) = true) (he : fmtL (readP (splitB 10 s)) = s) : parseL s = some (readP (splitB 10 s)) := parseL_iff.2 ⟨h0, h, he⟩
theorem lib_none {s : List UInt8} (h : okL (readP (splitB 10 s)) = true → fmtL (readP (splitB 10 s)) ≠ s) : parseL s = none := by
  cases hp : parseL s with
  | none => rfl
  | some L =>
    exfalso
    obtain ⟨-, hL, hs⟩ := parseL_iff.1 hp
    have h1 := read_fmt hL
    rw [hs] at h1
    rw [h1] at h
    exact h hL hs
theorem lib_long {s : List UInt8} (h : 4000 < s.length) : parseL s = none := if_pos h
end Go.Proofs.YtgibhbplgiejpaaGreat
namespace Go.Proofs.YtgibhbplgiejpaaGreat
open Go.RowKit
set_option linter.unusedSimpArgs false
set_option linter.unusedVariables false
def pre (s : Scr) (i : Nat) : List (List UInt8) := lineS s.name :: (s.ms.take i).flatMap linesM
def preM (s : Scr) (i : Nat) (m : Meth) (k : Nat) : List (List UInt8) := pre s i ++ (lineM m.name :: (m.code.take k).map fmtI)
theorem pre_zero (s : Scr) : pre s 0 = [lineS s.name] := by simp [pre]
theorem preM_zero (s : Scr) (i : Nat) (m : Meth) : preM s i m 0 = pre s i ++ [lineM m.name] := by simp [preM]
theorem pre_next {s : Scr} {i : Nat} {m : Meth} (h : s.ms[i]? = some m) {k : Nat} (hk : m.code.length ≤ k) : preM s i m k = pre s (i + 1) := by
  rw [preM, List.take_of_length_le hk, pre, pre, List.take_add_one, h, List.flatMap_append]
  simp [linesM]
theorem preM_next {s : Scr} {i : Nat} {m : Meth} {k : Nat} {x : I} (h : m.code[k]? = some x) : preM s i m (k + 1) = preM s i m k ++ [fmtI x] := by
  rw [preM, preM, List.take_add_one, h, List.map_append]
  simp
theorem pre_all {s : Scr} {i : Nat} (h : s.ms.length ≤ i) : pre s i = linesS s := by rw [pre, List.take_of_length_le h, linesS]
theorem endL_snoc (ls : List (List UInt8)) (l : List UInt8) : endL (ls ++ [l]) = endL ls ++ (l ++ [10]) := by rw [endL_append]; simp [endL]
theorem endL_short : ∀ {ls : List (List UInt8)}, (∀ l ∈ ls, l.length ≤ 76) → (endL ls).length ≤ 77 * ls.length
  | [], _ => by simp [endL]
  | l :: ls, h => by
    have h1 := h l (by simp)
    have h2 := endL_short (ls := ls) (fun x hx => h x (List.mem_cons_of_mem _ hx))
    have e : endL (l :: ls) = (l ++ [10]) ++ endL ls := rfl
    rw [e, List.length_append, List.length_append, List.length_cons, List.length_cons, List.length_nil]
    omega
theorem lineS_short {n : ByteArray} (h : isName n = true) : (lineS n).length ≤ 76 := by
  have := name_short h
  simp only [lineS, scriptW, List.length_append, List.length_cons, List.length_nil]
  omega
theorem lineM_short {n : ByteArray} (h : isName n = true) : (lineM n).length ≤ 76 := by
  have := name_short h
  simp only [lineM, methodW, List.length_append, List.length_cons, List.length_nil]
  omega
theorem okS_parts {s : Scr} (h : okS s = true) : isName s.name = true ∧ s.ms.length ≤ 4 ∧ ∀ m ∈ s.ms, isName m.name = true ∧ m.code.length ≤ 12 := by
  simp only [okS, Bool.and_eq_true, decide_eq_true_eq] at h
  refine ⟨h.1.2, h.2, fun m hm => ?_⟩
  have h1 := List.all_eq_true.1 h.1.1.1 m hm
  simp only [okM, Bool.and_eq_true, decide_eq_true_eq] at h1
  exact ⟨h1.1.2, h1.2⟩
theorem okS_code {s : Scr} (h : okS s = true) {m : Meth} (hm : m ∈ s.ms) {x : I} (hx : x ∈ m.code) : isI x = true := by
  simp only [okS, Bool.and_eq_true, decide_eq_true_eq] at h
  have h1 := List.all_eq_true.1 h.1.1.1 m hm
  simp only [okM, Bool.and_eq_true, decide_eq_true_eq] at h1
  exact List.all_eq_true.1 h1.1.1 x hx
theorem flat_few {ms : List Meth} (h : ∀ m ∈ ms, m.code.length ≤ 12) : (ms.flatMap linesM).length ≤ 13 * ms.length := by
  induction ms with
  | nil => simp
  | cons m ms ih =>
    have h1 := h m (by simp)
    have h2 := ih (fun x hx => h x (List.mem_cons_of_mem _ hx))
    rw [List.flatMap_cons, List.length_append, linesM, List.length_cons, List.length_map, List.length_cons]
    omega
theorem pre_few {s : Scr} (h : okS s = true) (i : Nat) : (pre s i).length ≤ 53 := by
  obtain ⟨-, h1, h2⟩ := okS_parts h
  have h3 := flat_few (ms := s.ms.take i) (fun m hm => (h2 m (List.mem_of_mem_take hm)).2)
  rw [List.length_take] at h3
  rw [pre, List.length_cons]
  omega
theorem preM_few {s : Scr} (h : okS s = true) (i k : Nat) {m : Meth} (hm : m ∈ s.ms) : (preM s i m k).length ≤ 66 := by
  have h1 := pre_few h i
  have h2 := ((okS_parts h).2.2 m hm).2
  rw [preM, List.length_append, List.length_cons, List.length_map, List.length_take]
  omega
theorem linesM_each {m : Meth} (h : isName m.name = true) : ∀ l ∈ linesM m, l.length ≤ 76 := by
  intro l hl
  rcases List.mem_cons.1 hl with rfl | hl
  · exact lineM_short h
  · obtain ⟨x, -, rfl⟩ := List.mem_map.1 hl
    exact fmtI_short x
theorem pre_each {s : Scr} (h : okS s = true) (i : Nat) : ∀ l ∈ pre s i, l.length ≤ 76 := by
  obtain ⟨h0, -, h2⟩ := okS_parts h
  intro l hl
  rcases List.mem_cons.1 hl with rfl | hl
  · exact lineS_short h0
  · obtain ⟨m, hm, hl⟩ := List.mem_flatMap.1 hl
    exact linesM_each (h2 m (List.mem_of_mem_take hm)).1 l hl
theorem preM_each {s : Scr} (h : okS s = true) (i k : Nat) {m : Meth} (hm : m ∈ s.ms) : ∀ l ∈ preM s i m k, l.length ≤ 76 := by
  intro l hl
  rcases List.mem_append.1 hl with hl | hl
  · exact pre_each h i l hl
  · rcases List.mem_cons.1 hl with rfl | hl
    · exact lineM_short ((okS_parts h).2.2 m hm).1
    · obtain ⟨x, -, rfl⟩ := List.mem_map.1 hl
      exact fmtI_short x
theorem pre_size {s : Scr} (h : okS s = true) (i : Nat) : (strB (endL (pre s i))).size ≤ 5082 := by
  have h1 := endL_short (pre_each h i)
  have h2 := pre_few h i
  show (endL (pre s i)).toArray.size ≤ _
  rw [List.size_toArray]
  omega
theorem preM_size {s : Scr} (h : okS s = true) (i k : Nat) {m : Meth} (hm : m ∈ s.ms) : (strB (endL (preM s i m k))).size ≤ 5082 := by
  have h1 := endL_short (preM_each h i k hm)
  have h2 := preM_few h i k hm
  show (endL (preM s i m k)).toArray.size ≤ _
  rw [List.size_toArray]
  omega
theorem fmtS_yes {s : Scr} (h : okS s = true) : strB (endL (pre s s.ms.length)) = strB (fmtS s) := by rw [pre_all (Nat.le_refl _), fmtS, if_pos h]
theorem fmtS_no {s : Scr} (h : okS s = false) : (⟨#[]⟩ : ByteArray) = strB (fmtS s) := by rw [fmtS, h]; rfl
theorem fmtS_short (s : Scr) : (strB (fmtS s)).size ≤ 5082 := by
  cases h : okS s with
  | false => rw [← fmtS_no h]; exact Nat.zero_le _
  | true => rw [← fmtS_yes h]; exact pre_size h _
/-! ### As strings -/
theorem str_script (n : ByteArray) : ((⟨#[115, 99, 114, 105, 112, 116, 32]⟩ : ByteArray) ++ n) ++ ⟨#[10]⟩ = strB (endL [lineS n]) := by
  apply bytes_eq
  simp [ByteArray.data_append, strB, endL, lineS, scriptW, nameW]
theorem str_method (s : Scr) (i : Nat) (m : Meth) : ((strB (endL (pre s i)) ++ (⟨#[109, 101, 116, 104, 111, 100, 32]⟩ : ByteArray)) ++ m.name) ++ ⟨#[10]⟩ = strB (endL (preM s i m 0)) := by
  rw [preM_zero, endL_snoc]
  apply bytes_eq
  simp [ByteArray.data_append, strB, lineM, methodW, nameW]
theorem str_instr {s : Scr} {i : Nat} {m : Meth} {k : Nat} {x : I} (h : m.code[k]? = some x) : (strB (endL (preM s i m k)) ++ (⟨(fmtI x).toArray⟩ : ByteArray)) ++ ⟨#[10]⟩ = strB (endL (preM s i m (k + 1))) := by
  rw [preM_next h, endL_snoc]
  apply bytes_eq
  simp [ByteArray.data_append, strB]
theorem line_script (n : ByteArray) : (⟨#[115, 99, 114, 105, 112, 116, 32]⟩ : ByteArray) ++ n = strB (lineS n) := by
  apply bytes_eq
  simp [ByteArray.data_append, strB, lineS, scriptW, nameW]
theorem line_method (n : ByteArray) : (⟨#[109, 101, 116, 104, 111, 100, 32]⟩ : ByteArray) ++ n = strB (lineM n) := by
  apply bytes_eq
  simp [ByteArray.data_append, strB, lineM, methodW, nameW]
theorem join_end : ∀ {ls : List (List UInt8)}, ls ≠ [] → Lib.join ls [10] ++ [10] = endL ls
  | [], h => absurd rfl h
  | [l], _ => by rw [Lib.join_one]; simp [endL]
  | l :: k :: ls, _ => by
    have ih := join_end (ls := k :: ls) (by simp)
    rw [Lib.join_cons, Lib.joinTail] at ih ⊢
    have e : endL (l :: k :: ls) = (l ++ [10]) ++ endL (k :: ls) := rfl
    rw [e, ← ih]
    simp [Lib.joinTail]
/-! ### A library -/
def preL (L : List Scr) (i : Nat) : List UInt8 := (L.take i).flatMap fmtS
theorem preL_zero (L : List Scr) : preL L 0 = [] := by simp [preL]
theorem preL_next {L : List Scr} {i : Nat} {s : Scr} (h : L[i]? = some s) : strB (preL L i) ++ strB (fmtS s) = strB (preL L (i + 1)) := by
  apply bytes_eq
  rw [preL, preL, List.take_add_one, h, List.flatMap_append]
  simp [ByteArray.data_append, strB]
theorem preL_all {L : List Scr} {i : Nat} (h : L.length ≤ i) (hL : okL L = true) : strB (preL L i) = strB (fmtL L) := by rw [preL, List.take_of_length_le h, fmtL_each hL]
theorem fmtL_no {L : List Scr} (h : okL L = false) : (⟨#[]⟩ : ByteArray) = strB (fmtL L) := by rw [fmtL, h]; rfl
theorem flatS_short : ∀ L : List Scr, (L.flatMap fmtS).length ≤ 5082 * L.length
  | [] => by simp
  | s :: L => by
    have h1 : (fmtS s).length ≤ 5082 := by
      have := fmtS_short s
      have e : (strB (fmtS s)).size = (fmtS s).toArray.size := rfl
      rw [e, List.size_toArray] at this
      exact this
    have h2 := flatS_short L
    rw [List.flatMap_cons, List.length_append, List.length_cons]
    omega
theorem okL_few {L : List Scr} (h : okL L = true) : L.length ≤ 6 := by
  simp only [okL, Bool.and_eq_true, decide_eq_true_eq] at h
  exact h.2
theorem preL_size {L : List Scr} (h : okL L = true) (i : Nat) : (strB (preL L i)).size ≤ 30492 := by
  have h1 := flatS_short (L.take i)
  have h2 := okL_few h
  rw [List.length_take] at h1
  show (preL L i).toArray.size ≤ _
  rw [List.size_toArray, preL]
  omega
end Go.Proofs.YtgibhbplgiejpaaGreat
