/- Chapter 9: what a shape is asked. -/
import Derived.Test.YtfgijebgnkikpaaPendE
import Derived.Test.YtfgijebgnkikpaaImplVS
import Derived.Test.YtfgijebgnkikpaaImplW
import Derived.Test.YtfgijebgnkikpaaEntV
import Derived.LoopTactic
import Derived.Lib.Hide
import Derived.Deep.QuietTactic
import Derived.BigQuiet
import Derived.Deep.RegionWith
import Derived.Handy
namespace Go.Proofs.Ytfgijebgnkikpaa
open Go.RowKit
set_option linter.unusedVariables false
set_option linter.unusedSimpArgs false
def nowh (p q c : Int) : Bool := decide (p = 0 ∧ q = 0 ∧ c = 0)
def somew (p q c l : Int) : Bool := decide (1 ≤ p ∧ p ≤ 4) && decide (1 ≤ q ∧ q ≤ 999999) && decide (l ≤ c ∧ c ≤ 999999)
def nov (k n : Int) : Bool := decide (k = 0 ∧ n = 0)
def promV (st : Int) (v : V) (p q c : Int) (n5 n6 : Nat) (e : Int) : Bool :=
  if st = 1 then nov v.kind v.n && nowh p q c && decide ((n5 : Int) ≤ 40)
  else if st = 2 then isVal v e && nowh p q c && ((n5 : Int) == 0) && ((n6 : Int) == 0)
  else if st = 3 then nov v.kind v.n && somew p q c 0 && ((n5 : Int) == 0)
  else if st = 4 then isVal v e && somew p q c 0 && decide ((n5 : Int) ≤ 40)
  else false
def objV (sc : Int) (vl : List V) (n : Nat) (e : Int) : Bool := decide (0 ≤ sc ∧ sc ≤ 5) && decide ((n : Int) ≤ 3) && areVals vl e
theorem isNowh (p q ct : Int) (w : World) : Calls Try.prog 121 #[.agg #[.int .i64 p, .int .i64 q, .int .i64 ct]] w (GivesBool (nowh p q ct) w) := by
  have HB0 : Hid (Below w.heap.size w (w.alloc (.cells #[.int .i64 p, .int .i64 q, .int .i64 ct] 94))) := Lib.hid (by go_grown)
  by_cases h1 : p = 0
  · subst h1
    by_cases h2 : q = 0
    · subst h2
      by_cases h3 : ct = 0
      · subst h3
        go_enter Try.func121, Try.ntmps121
        go_wp2
        go_ret
        exact GivesBool.of rfl HB0.out
      · have HN : Hid (false = nowh 0 0 ct) := Lib.hid (by simp [nowh, h3])
        have hb : (ct == 0) = false := by simpa using h3
        go_enter Try.func121, Try.ntmps121
        go_wp2
        go_ret
        exact GivesBool.of HN.out HB0.out
    · have HN : Hid (false = nowh 0 q ct) := Lib.hid (by simp [nowh, h2])
      have hb : (q == 0) = false := by simpa using h2
      go_enter Try.func121, Try.ntmps121
      go_wp2
      go_ret
      exact GivesBool.of HN.out HB0.out
  · have HN : Hid (false = nowh p q ct) := Lib.hid (by simp [nowh, h1])
    have hb : (p == 0) = false := by simpa using h1
    go_enter Try.func121, Try.ntmps121
    go_wp2
    go_ret
    exact GivesBool.of HN.out HB0.out
set_option maxHeartbeats 2000000 in
theorem hasNov (k s p q ct st vk vn : Int) (A B : Option Addr) (n c m d : Nat) (w : World) : Calls Try.prog 122 #[.agg #[.int .i64 k, .int .i64 s, .int .i64 p, .int .i64 q, .int .i64 ct, .int .i64 st, .int .i64 vk, .int .i64 vn, .slice A n c, .slice B m d]] w (GivesBool (nov vk vn) w) := by
  have HB0 : Hid (Below w.heap.size w (w.alloc (.cells #[.int .i64 k, .int .i64 s, .int .i64 p, .int .i64 q, .int .i64 ct, .int .i64 st, .int .i64 vk, .int .i64 vn, .slice A n c, .slice B m d] 96))) := Lib.hid (by go_grown)
  by_cases h1 : vk = 0
  · subst h1
    by_cases h2 : vn = 0
    · subst h2
      go_enter Try.func122, Try.ntmps122
      go_wp2
      go_ret
      exact GivesBool.of rfl HB0.out
    · have HN : Hid (false = nov 0 vn) := Lib.hid (by simp [nov, h2])
      have hb : (vn == 0) = false := by simpa using h2
      go_enter Try.func122, Try.ntmps122
      go_wp2
      go_ret
      exact GivesBool.of HN.out HB0.out
  · have HN : Hid (false = nov vk vn) := Lib.hid (by simp [nov, h1])
    have hb : (vk == 0) = false := by simpa using h1
    go_enter Try.func122, Try.ntmps122
    go_wp2
    go_ret
    exact GivesBool.of HN.out HB0.out
set_option maxHeartbeats 2000000 in
theorem isSomew (p q ct l : Int) (w : World) : Calls Try.prog 124 #[.agg #[.int .i64 p, .int .i64 q, .int .i64 ct], .int .i64 l] w (GivesBool (somew p q ct l) w) := by
  have HB0 : Hid (Below w.heap.size w (w.alloc (.cells #[.int .i64 p, .int .i64 q, .int .i64 ct] 94))) := Lib.hid (by go_grown)
  rcases h1 : decide (1 ≤ p ∧ p ≤ 4) with _ | _
  · have H1 := Lib.hid h1
    have HN : Hid (false = somew p q ct l) := Lib.hid (by simp only [somew, H1.out]; rfl)
    clear h1
    go_enter Try.func124, Try.ntmps124
    go_wp2_with ((with_reducible refine (implInB _ _ _ _).mono ?_); rintro e w1 ⟨rfl, rfl⟩; first | rw [H1.out])
    go_ret
    exact GivesBool.of HN.out HB0.out
  · have H1 := Lib.hid h1
    clear h1
    rcases h2 : decide (1 ≤ q ∧ q ≤ 999999) with _ | _
    · have H2 := Lib.hid h2
      have HN : Hid (false = somew p q ct l) := Lib.hid (by simp only [somew, H1.out, H2.out]; rfl)
      clear h2
      go_enter Try.func124, Try.ntmps124
      go_wp2_with ((with_reducible refine (implInB _ _ _ _).mono ?_); rintro e w1 ⟨rfl, rfl⟩; first | rw [H1.out] | rw [H2.out])
      go_ret
      exact GivesBool.of HN.out HB0.out
    · have H2 := Lib.hid h2
      clear h2
      obtain ⟨b3, h3⟩ : ∃ b3, decide (l ≤ ct ∧ ct ≤ 999999) = b3 := ⟨_, rfl⟩
      have H3 := Lib.hid h3
      have HN : Hid (b3 = somew p q ct l) := Lib.hid (by simp only [somew, H1.out, H2.out, H3.out]; rfl)
      clear h3
      go_enter Try.func124, Try.ntmps124
      go_wp2_with ((with_reducible refine (implInB _ _ _ _).mono ?_); rintro e w1 ⟨rfl, rfl⟩; first | rw [H1.out] | rw [H2.out] | rw [H3.out])
      go_ret
      exact GivesBool.of HN.out HB0.out
theorem proxValid (k s p q ct e : Int) (w : World) : Calls Try.prog 125 #[.agg #[.int .i64 k, .int .i64 s, .int .i64 p, .int .i64 q, .int .i64 ct], .int .i64 e] w (GivesBool (somew p q ct 1) w) := by
  have HB0 : Hid (Below w.heap.size w (w.alloc (.cells #[.int .i64 k, .int .i64 s, .int .i64 p, .int .i64 q, .int .i64 ct] 101))) := Lib.hid (by go_grown)
  go_enter Try.func125, Try.ntmps125
  go_wp2_with fail
  refine (isSomew p q ct 1 _).mono ?_
  rintro e w1 ⟨rfl, hb⟩
  have HB := Lib.hid (HB0.out.trans (hb.mono HB0.out.size))
  clear hb
  go_wp2_with fail
  go_ret
  exact GivesBool.ret HB.out
set_option maxHeartbeats 4000000 in
theorem objValid (k s sc e : Int) (L : List Dat) (A : Option Addr) (n c : Nat) (w : World) (hl : Lies w (.l L) [.slice A n c]) (ht : ∀ x ∈ L, Has tyValue x) (hn : n ≤ 1099511627776) : Calls Try.prog 114 #[.agg #[.int .i64 k, .int .i64 s, .int .i64 sc, .slice A n c], .int .i64 e] w (GivesBool (objV sc (vs L) n e) w) := by
  have X := Lib.hid ((Held.start w).push #[.int .i64 k, .int .i64 s, .int .i64 sc, .slice A n c] 79)
  have HL := Lib.hid hl
  have HT := Lib.hid ht
  clear hl ht
  rcases h0 : decide (0 ≤ sc ∧ sc ≤ 5) with _ | _
  · have H0 := Lib.hid h0
    have HN : Hid (false = objV sc (vs L) n e) := Lib.hid (by simp only [objV]; simp only [H0.out, Bool.true_and, Bool.false_and, Bool.and_true, Bool.and_false])
    clear h0
    go_enter Try.func114, Try.ntmps114
    go_wp2_with fail
    refine (implInB _ _ _ _).mono ?_
    rintro e w0 ⟨rfl, rfl⟩
    rw [H0.out]
    go_wp2_with fail
    go_ret
    exact GivesBool.of HN.out X.out.1
  · have H0 := Lib.hid h0
    clear h0
    rcases h1 : decide ((n : Int) ≤ 3) with _ | _
    · have H1 := Lib.hid h1
      have HN : Hid (false = objV sc (vs L) n e) := Lib.hid (by simp only [objV]; simp only [H0.out, H1.out, Bool.true_and, Bool.false_and, Bool.and_true, Bool.and_false])
      go_enter Try.func114, Try.ntmps114
      go_wp2_with fail
      refine (implInB _ _ _ _).mono ?_
      rintro e w0 ⟨rfl, rfl⟩
      rw [H0.out]
      go_wp2_with fail
      go_ret
      exact GivesBool.of HN.out X.out.1
    · have H1 := Lib.hid h1
      obtain ⟨b2, h2⟩ : ∃ b2, areVals (vs L) e = b2 := ⟨_, rfl⟩
      have H2 := Lib.hid h2
      have HN : Hid (b2 = objV sc (vs L) n e) := Lib.hid (by simp only [objV]; simp only [H0.out, H1.out, H2.out, Bool.true_and, Bool.and_true])
      clear h2
      go_enter Try.func114, Try.ntmps114
      go_wp2_with fail
      refine (implInB _ _ _ _).mono ?_
      rintro e w0 ⟨rfl, rfl⟩
      rw [H0.out]
      go_wp2_with fail
      refine (implAreV A n c (vs L) e _ ((HL.out.below X.out.1).vals HT.out) hn).mono ?_
      rintro e w2 ⟨rfl, hb⟩
      rw [H2.out]
      replace X := Lib.hid (X.out.below hb)
      clear hb
      have x0 := X.out.at_ (g := w.heap.size) (i := 0) (v := .int .i64 k) (cs := [.int .i64 k, .int .i64 s, .int .i64 sc, .slice A n c]) (by repeat (first | exact List.mem_cons_self | refine List.mem_cons_of_mem _ ?_)) rfl
      have x1 := X.out.at_ (g := w.heap.size) (i := 1) (v := .int .i64 s) (cs := [.int .i64 k, .int .i64 s, .int .i64 sc, .slice A n c]) (by repeat (first | exact List.mem_cons_self | refine List.mem_cons_of_mem _ ?_)) rfl
      have x2 := X.out.at_ (g := w.heap.size) (i := 2) (v := .int .i64 sc) (cs := [.int .i64 k, .int .i64 s, .int .i64 sc, .slice A n c]) (by repeat (first | exact List.mem_cons_self | refine List.mem_cons_of_mem _ ?_)) rfl
      have x3 := X.out.at_ (g := w.heap.size) (i := 3) (v := .slice A n c) (cs := [.int .i64 k, .int .i64 s, .int .i64 sc, .slice A n c]) (by repeat (first | exact List.mem_cons_self | refine List.mem_cons_of_mem _ ?_)) rfl
      go_wp2_with fail
      go_ret
      exact GivesBool.of HN.out X.out.1
set_option maxRecDepth 100000 in
set_option maxHeartbeats 8000000 in
theorem promValid (k s p q ct st vk vn : Int) (A B : Option Addr) (n c m d : Nat) (e : Int) (w : World) (hn : n ≤ 1099511627776) (hm : m ≤ 1099511627776) : Calls Try.prog 123 #[.agg #[.int .i64 k, .int .i64 s, .int .i64 p, .int .i64 q, .int .i64 ct, .int .i64 st, .int .i64 vk, .int .i64 vn, .slice A n c, .slice B m d], .int .i64 e] w (GivesBool (promV st ⟨vk, vn⟩ p q ct n m e) w) := by
  have X := Lib.hid ((Held.start w).push #[.int .i64 k, .int .i64 s, .int .i64 p, .int .i64 q, .int .i64 ct, .int .i64 st, .int .i64 vk, .int .i64 vn, .slice A n c, .slice B m d] 96)
  by_cases s1 : st = 1
  · subst s1
    rcases h0 : nov vk vn with _ | _
    · have H0 := Lib.hid h0
      have HN : Hid (false = promV 1 ⟨vk, vn⟩ p q ct n m e) := Lib.hid (by simp only [promV]; simp only [Int.reduceEq, if_true, if_false]; simp only [H0.out, Bool.true_and, Bool.false_and, Bool.and_true, Bool.and_false])
      clear h0
      go_enter Try.func123, Try.ntmps123
      go_wp2_with fail
      refine (hasNov k s p q ct _ vk vn A B n c m d _).mono ?_
      rintro e w0 ⟨rfl, hb⟩
      rw [H0.out]
      replace X := Lib.hid (X.out.below hb)
      clear hb
      have x0 := X.out.at_ (g := w.heap.size) (i := 0) (v := .int .i64 k) (cs := [.int .i64 k, .int .i64 s, .int .i64 p, .int .i64 q, .int .i64 ct, .int .i64 1, .int .i64 vk, .int .i64 vn, .slice A n c, .slice B m d]) (by repeat (first | exact List.mem_cons_self | refine List.mem_cons_of_mem _ ?_)) rfl
      have x1 := X.out.at_ (g := w.heap.size) (i := 1) (v := .int .i64 s) (cs := [.int .i64 k, .int .i64 s, .int .i64 p, .int .i64 q, .int .i64 ct, .int .i64 1, .int .i64 vk, .int .i64 vn, .slice A n c, .slice B m d]) (by repeat (first | exact List.mem_cons_self | refine List.mem_cons_of_mem _ ?_)) rfl
      have x2 := X.out.at_ (g := w.heap.size) (i := 2) (v := .int .i64 p) (cs := [.int .i64 k, .int .i64 s, .int .i64 p, .int .i64 q, .int .i64 ct, .int .i64 1, .int .i64 vk, .int .i64 vn, .slice A n c, .slice B m d]) (by repeat (first | exact List.mem_cons_self | refine List.mem_cons_of_mem _ ?_)) rfl
      have x3 := X.out.at_ (g := w.heap.size) (i := 3) (v := .int .i64 q) (cs := [.int .i64 k, .int .i64 s, .int .i64 p, .int .i64 q, .int .i64 ct, .int .i64 1, .int .i64 vk, .int .i64 vn, .slice A n c, .slice B m d]) (by repeat (first | exact List.mem_cons_self | refine List.mem_cons_of_mem _ ?_)) rfl
      have x4 := X.out.at_ (g := w.heap.size) (i := 4) (v := .int .i64 ct) (cs := [.int .i64 k, .int .i64 s, .int .i64 p, .int .i64 q, .int .i64 ct, .int .i64 1, .int .i64 vk, .int .i64 vn, .slice A n c, .slice B m d]) (by repeat (first | exact List.mem_cons_self | refine List.mem_cons_of_mem _ ?_)) rfl
      have x5 := X.out.at_ (g := w.heap.size) (i := 5) (v := .int .i64 1) (cs := [.int .i64 k, .int .i64 s, .int .i64 p, .int .i64 q, .int .i64 ct, .int .i64 1, .int .i64 vk, .int .i64 vn, .slice A n c, .slice B m d]) (by repeat (first | exact List.mem_cons_self | refine List.mem_cons_of_mem _ ?_)) rfl
      have x6 := X.out.at_ (g := w.heap.size) (i := 6) (v := .int .i64 vk) (cs := [.int .i64 k, .int .i64 s, .int .i64 p, .int .i64 q, .int .i64 ct, .int .i64 1, .int .i64 vk, .int .i64 vn, .slice A n c, .slice B m d]) (by repeat (first | exact List.mem_cons_self | refine List.mem_cons_of_mem _ ?_)) rfl
      have x7 := X.out.at_ (g := w.heap.size) (i := 7) (v := .int .i64 vn) (cs := [.int .i64 k, .int .i64 s, .int .i64 p, .int .i64 q, .int .i64 ct, .int .i64 1, .int .i64 vk, .int .i64 vn, .slice A n c, .slice B m d]) (by repeat (first | exact List.mem_cons_self | refine List.mem_cons_of_mem _ ?_)) rfl
      have x8 := X.out.at_ (g := w.heap.size) (i := 8) (v := .slice A n c) (cs := [.int .i64 k, .int .i64 s, .int .i64 p, .int .i64 q, .int .i64 ct, .int .i64 1, .int .i64 vk, .int .i64 vn, .slice A n c, .slice B m d]) (by repeat (first | exact List.mem_cons_self | refine List.mem_cons_of_mem _ ?_)) rfl
      have x9 := X.out.at_ (g := w.heap.size) (i := 9) (v := .slice B m d) (cs := [.int .i64 k, .int .i64 s, .int .i64 p, .int .i64 q, .int .i64 ct, .int .i64 1, .int .i64 vk, .int .i64 vn, .slice A n c, .slice B m d]) (by repeat (first | exact List.mem_cons_self | refine List.mem_cons_of_mem _ ?_)) rfl
      go_wp2_with fail
      go_ret
      exact GivesBool.of HN.out X.out.1
    · have H0 := Lib.hid h0
      clear h0
      rcases h1 : nowh p q ct with _ | _
      · have H1 := Lib.hid h1
        have HN : Hid (false = promV 1 ⟨vk, vn⟩ p q ct n m e) := Lib.hid (by simp only [promV]; simp only [Int.reduceEq, if_true, if_false]; simp only [H0.out, H1.out, Bool.true_and, Bool.false_and, Bool.and_true, Bool.and_false])
        clear h1
        go_enter Try.func123, Try.ntmps123
        go_wp2_with fail
        refine (hasNov k s p q ct _ vk vn A B n c m d _).mono ?_
        rintro e w0 ⟨rfl, hb⟩
        rw [H0.out]
        replace X := Lib.hid (X.out.below hb)
        clear hb
        have x0 := X.out.at_ (g := w.heap.size) (i := 0) (v := .int .i64 k) (cs := [.int .i64 k, .int .i64 s, .int .i64 p, .int .i64 q, .int .i64 ct, .int .i64 1, .int .i64 vk, .int .i64 vn, .slice A n c, .slice B m d]) (by repeat (first | exact List.mem_cons_self | refine List.mem_cons_of_mem _ ?_)) rfl
        have x1 := X.out.at_ (g := w.heap.size) (i := 1) (v := .int .i64 s) (cs := [.int .i64 k, .int .i64 s, .int .i64 p, .int .i64 q, .int .i64 ct, .int .i64 1, .int .i64 vk, .int .i64 vn, .slice A n c, .slice B m d]) (by repeat (first | exact List.mem_cons_self | refine List.mem_cons_of_mem _ ?_)) rfl
        have x2 := X.out.at_ (g := w.heap.size) (i := 2) (v := .int .i64 p) (cs := [.int .i64 k, .int .i64 s, .int .i64 p, .int .i64 q, .int .i64 ct, .int .i64 1, .int .i64 vk, .int .i64 vn, .slice A n c, .slice B m d]) (by repeat (first | exact List.mem_cons_self | refine List.mem_cons_of_mem _ ?_)) rfl
        have x3 := X.out.at_ (g := w.heap.size) (i := 3) (v := .int .i64 q) (cs := [.int .i64 k, .int .i64 s, .int .i64 p, .int .i64 q, .int .i64 ct, .int .i64 1, .int .i64 vk, .int .i64 vn, .slice A n c, .slice B m d]) (by repeat (first | exact List.mem_cons_self | refine List.mem_cons_of_mem _ ?_)) rfl
        have x4 := X.out.at_ (g := w.heap.size) (i := 4) (v := .int .i64 ct) (cs := [.int .i64 k, .int .i64 s, .int .i64 p, .int .i64 q, .int .i64 ct, .int .i64 1, .int .i64 vk, .int .i64 vn, .slice A n c, .slice B m d]) (by repeat (first | exact List.mem_cons_self | refine List.mem_cons_of_mem _ ?_)) rfl
        have x5 := X.out.at_ (g := w.heap.size) (i := 5) (v := .int .i64 1) (cs := [.int .i64 k, .int .i64 s, .int .i64 p, .int .i64 q, .int .i64 ct, .int .i64 1, .int .i64 vk, .int .i64 vn, .slice A n c, .slice B m d]) (by repeat (first | exact List.mem_cons_self | refine List.mem_cons_of_mem _ ?_)) rfl
        have x6 := X.out.at_ (g := w.heap.size) (i := 6) (v := .int .i64 vk) (cs := [.int .i64 k, .int .i64 s, .int .i64 p, .int .i64 q, .int .i64 ct, .int .i64 1, .int .i64 vk, .int .i64 vn, .slice A n c, .slice B m d]) (by repeat (first | exact List.mem_cons_self | refine List.mem_cons_of_mem _ ?_)) rfl
        have x7 := X.out.at_ (g := w.heap.size) (i := 7) (v := .int .i64 vn) (cs := [.int .i64 k, .int .i64 s, .int .i64 p, .int .i64 q, .int .i64 ct, .int .i64 1, .int .i64 vk, .int .i64 vn, .slice A n c, .slice B m d]) (by repeat (first | exact List.mem_cons_self | refine List.mem_cons_of_mem _ ?_)) rfl
        have x8 := X.out.at_ (g := w.heap.size) (i := 8) (v := .slice A n c) (cs := [.int .i64 k, .int .i64 s, .int .i64 p, .int .i64 q, .int .i64 ct, .int .i64 1, .int .i64 vk, .int .i64 vn, .slice A n c, .slice B m d]) (by repeat (first | exact List.mem_cons_self | refine List.mem_cons_of_mem _ ?_)) rfl
        have x9 := X.out.at_ (g := w.heap.size) (i := 9) (v := .slice B m d) (cs := [.int .i64 k, .int .i64 s, .int .i64 p, .int .i64 q, .int .i64 ct, .int .i64 1, .int .i64 vk, .int .i64 vn, .slice A n c, .slice B m d]) (by repeat (first | exact List.mem_cons_self | refine List.mem_cons_of_mem _ ?_)) rfl
        go_wp2_with fail
        refine (isNowh p q ct _).mono ?_
        rintro e w1 ⟨rfl, hb⟩
        clear x0 x1 x2 x3 x4 x5 x6 x7 x8 x9
        rw [H1.out]
        replace X := Lib.hid (X.out.below hb)
        clear hb
        have x0 := X.out.at_ (g := w.heap.size) (i := 0) (v := .int .i64 k) (cs := [.int .i64 k, .int .i64 s, .int .i64 p, .int .i64 q, .int .i64 ct, .int .i64 1, .int .i64 vk, .int .i64 vn, .slice A n c, .slice B m d]) (by repeat (first | exact List.mem_cons_self | refine List.mem_cons_of_mem _ ?_)) rfl
        have x1 := X.out.at_ (g := w.heap.size) (i := 1) (v := .int .i64 s) (cs := [.int .i64 k, .int .i64 s, .int .i64 p, .int .i64 q, .int .i64 ct, .int .i64 1, .int .i64 vk, .int .i64 vn, .slice A n c, .slice B m d]) (by repeat (first | exact List.mem_cons_self | refine List.mem_cons_of_mem _ ?_)) rfl
        have x2 := X.out.at_ (g := w.heap.size) (i := 2) (v := .int .i64 p) (cs := [.int .i64 k, .int .i64 s, .int .i64 p, .int .i64 q, .int .i64 ct, .int .i64 1, .int .i64 vk, .int .i64 vn, .slice A n c, .slice B m d]) (by repeat (first | exact List.mem_cons_self | refine List.mem_cons_of_mem _ ?_)) rfl
        have x3 := X.out.at_ (g := w.heap.size) (i := 3) (v := .int .i64 q) (cs := [.int .i64 k, .int .i64 s, .int .i64 p, .int .i64 q, .int .i64 ct, .int .i64 1, .int .i64 vk, .int .i64 vn, .slice A n c, .slice B m d]) (by repeat (first | exact List.mem_cons_self | refine List.mem_cons_of_mem _ ?_)) rfl
        have x4 := X.out.at_ (g := w.heap.size) (i := 4) (v := .int .i64 ct) (cs := [.int .i64 k, .int .i64 s, .int .i64 p, .int .i64 q, .int .i64 ct, .int .i64 1, .int .i64 vk, .int .i64 vn, .slice A n c, .slice B m d]) (by repeat (first | exact List.mem_cons_self | refine List.mem_cons_of_mem _ ?_)) rfl
        have x5 := X.out.at_ (g := w.heap.size) (i := 5) (v := .int .i64 1) (cs := [.int .i64 k, .int .i64 s, .int .i64 p, .int .i64 q, .int .i64 ct, .int .i64 1, .int .i64 vk, .int .i64 vn, .slice A n c, .slice B m d]) (by repeat (first | exact List.mem_cons_self | refine List.mem_cons_of_mem _ ?_)) rfl
        have x6 := X.out.at_ (g := w.heap.size) (i := 6) (v := .int .i64 vk) (cs := [.int .i64 k, .int .i64 s, .int .i64 p, .int .i64 q, .int .i64 ct, .int .i64 1, .int .i64 vk, .int .i64 vn, .slice A n c, .slice B m d]) (by repeat (first | exact List.mem_cons_self | refine List.mem_cons_of_mem _ ?_)) rfl
        have x7 := X.out.at_ (g := w.heap.size) (i := 7) (v := .int .i64 vn) (cs := [.int .i64 k, .int .i64 s, .int .i64 p, .int .i64 q, .int .i64 ct, .int .i64 1, .int .i64 vk, .int .i64 vn, .slice A n c, .slice B m d]) (by repeat (first | exact List.mem_cons_self | refine List.mem_cons_of_mem _ ?_)) rfl
        have x8 := X.out.at_ (g := w.heap.size) (i := 8) (v := .slice A n c) (cs := [.int .i64 k, .int .i64 s, .int .i64 p, .int .i64 q, .int .i64 ct, .int .i64 1, .int .i64 vk, .int .i64 vn, .slice A n c, .slice B m d]) (by repeat (first | exact List.mem_cons_self | refine List.mem_cons_of_mem _ ?_)) rfl
        have x9 := X.out.at_ (g := w.heap.size) (i := 9) (v := .slice B m d) (cs := [.int .i64 k, .int .i64 s, .int .i64 p, .int .i64 q, .int .i64 ct, .int .i64 1, .int .i64 vk, .int .i64 vn, .slice A n c, .slice B m d]) (by repeat (first | exact List.mem_cons_self | refine List.mem_cons_of_mem _ ?_)) rfl
        go_wp2_with fail
        go_ret
        exact GivesBool.of HN.out X.out.1
      · have H1 := Lib.hid h1
        clear h1
        obtain ⟨b2, h2⟩ : ∃ b2, decide ((n : Int) ≤ 40) = b2 := ⟨_, rfl⟩
        have H2 := Lib.hid h2
        have HN : Hid (decide ((n : Int) ≤ 40) = promV 1 ⟨vk, vn⟩ p q ct n m e) := Lib.hid (by simp only [promV]; simp only [Int.reduceEq, if_true, if_false]; simp only [H0.out, H1.out, Bool.true_and, Bool.true_and, Bool.and_true])
        clear h2
        go_enter Try.func123, Try.ntmps123
        go_wp2_with fail
        refine (hasNov k s p q ct _ vk vn A B n c m d _).mono ?_
        rintro e w0 ⟨rfl, hb⟩
        rw [H0.out]
        replace X := Lib.hid (X.out.below hb)
        clear hb
        have x0 := X.out.at_ (g := w.heap.size) (i := 0) (v := .int .i64 k) (cs := [.int .i64 k, .int .i64 s, .int .i64 p, .int .i64 q, .int .i64 ct, .int .i64 1, .int .i64 vk, .int .i64 vn, .slice A n c, .slice B m d]) (by repeat (first | exact List.mem_cons_self | refine List.mem_cons_of_mem _ ?_)) rfl
        have x1 := X.out.at_ (g := w.heap.size) (i := 1) (v := .int .i64 s) (cs := [.int .i64 k, .int .i64 s, .int .i64 p, .int .i64 q, .int .i64 ct, .int .i64 1, .int .i64 vk, .int .i64 vn, .slice A n c, .slice B m d]) (by repeat (first | exact List.mem_cons_self | refine List.mem_cons_of_mem _ ?_)) rfl
        have x2 := X.out.at_ (g := w.heap.size) (i := 2) (v := .int .i64 p) (cs := [.int .i64 k, .int .i64 s, .int .i64 p, .int .i64 q, .int .i64 ct, .int .i64 1, .int .i64 vk, .int .i64 vn, .slice A n c, .slice B m d]) (by repeat (first | exact List.mem_cons_self | refine List.mem_cons_of_mem _ ?_)) rfl
        have x3 := X.out.at_ (g := w.heap.size) (i := 3) (v := .int .i64 q) (cs := [.int .i64 k, .int .i64 s, .int .i64 p, .int .i64 q, .int .i64 ct, .int .i64 1, .int .i64 vk, .int .i64 vn, .slice A n c, .slice B m d]) (by repeat (first | exact List.mem_cons_self | refine List.mem_cons_of_mem _ ?_)) rfl
        have x4 := X.out.at_ (g := w.heap.size) (i := 4) (v := .int .i64 ct) (cs := [.int .i64 k, .int .i64 s, .int .i64 p, .int .i64 q, .int .i64 ct, .int .i64 1, .int .i64 vk, .int .i64 vn, .slice A n c, .slice B m d]) (by repeat (first | exact List.mem_cons_self | refine List.mem_cons_of_mem _ ?_)) rfl
        have x5 := X.out.at_ (g := w.heap.size) (i := 5) (v := .int .i64 1) (cs := [.int .i64 k, .int .i64 s, .int .i64 p, .int .i64 q, .int .i64 ct, .int .i64 1, .int .i64 vk, .int .i64 vn, .slice A n c, .slice B m d]) (by repeat (first | exact List.mem_cons_self | refine List.mem_cons_of_mem _ ?_)) rfl
        have x6 := X.out.at_ (g := w.heap.size) (i := 6) (v := .int .i64 vk) (cs := [.int .i64 k, .int .i64 s, .int .i64 p, .int .i64 q, .int .i64 ct, .int .i64 1, .int .i64 vk, .int .i64 vn, .slice A n c, .slice B m d]) (by repeat (first | exact List.mem_cons_self | refine List.mem_cons_of_mem _ ?_)) rfl
        have x7 := X.out.at_ (g := w.heap.size) (i := 7) (v := .int .i64 vn) (cs := [.int .i64 k, .int .i64 s, .int .i64 p, .int .i64 q, .int .i64 ct, .int .i64 1, .int .i64 vk, .int .i64 vn, .slice A n c, .slice B m d]) (by repeat (first | exact List.mem_cons_self | refine List.mem_cons_of_mem _ ?_)) rfl
        have x8 := X.out.at_ (g := w.heap.size) (i := 8) (v := .slice A n c) (cs := [.int .i64 k, .int .i64 s, .int .i64 p, .int .i64 q, .int .i64 ct, .int .i64 1, .int .i64 vk, .int .i64 vn, .slice A n c, .slice B m d]) (by repeat (first | exact List.mem_cons_self | refine List.mem_cons_of_mem _ ?_)) rfl
        have x9 := X.out.at_ (g := w.heap.size) (i := 9) (v := .slice B m d) (cs := [.int .i64 k, .int .i64 s, .int .i64 p, .int .i64 q, .int .i64 ct, .int .i64 1, .int .i64 vk, .int .i64 vn, .slice A n c, .slice B m d]) (by repeat (first | exact List.mem_cons_self | refine List.mem_cons_of_mem _ ?_)) rfl
        go_wp2_with fail
        refine (isNowh p q ct _).mono ?_
        rintro e w1 ⟨rfl, hb⟩
        clear x0 x1 x2 x3 x4 x5 x6 x7 x8 x9
        rw [H1.out]
        replace X := Lib.hid (X.out.below hb)
        clear hb
        have x0 := X.out.at_ (g := w.heap.size) (i := 0) (v := .int .i64 k) (cs := [.int .i64 k, .int .i64 s, .int .i64 p, .int .i64 q, .int .i64 ct, .int .i64 1, .int .i64 vk, .int .i64 vn, .slice A n c, .slice B m d]) (by repeat (first | exact List.mem_cons_self | refine List.mem_cons_of_mem _ ?_)) rfl
        have x1 := X.out.at_ (g := w.heap.size) (i := 1) (v := .int .i64 s) (cs := [.int .i64 k, .int .i64 s, .int .i64 p, .int .i64 q, .int .i64 ct, .int .i64 1, .int .i64 vk, .int .i64 vn, .slice A n c, .slice B m d]) (by repeat (first | exact List.mem_cons_self | refine List.mem_cons_of_mem _ ?_)) rfl
        have x2 := X.out.at_ (g := w.heap.size) (i := 2) (v := .int .i64 p) (cs := [.int .i64 k, .int .i64 s, .int .i64 p, .int .i64 q, .int .i64 ct, .int .i64 1, .int .i64 vk, .int .i64 vn, .slice A n c, .slice B m d]) (by repeat (first | exact List.mem_cons_self | refine List.mem_cons_of_mem _ ?_)) rfl
        have x3 := X.out.at_ (g := w.heap.size) (i := 3) (v := .int .i64 q) (cs := [.int .i64 k, .int .i64 s, .int .i64 p, .int .i64 q, .int .i64 ct, .int .i64 1, .int .i64 vk, .int .i64 vn, .slice A n c, .slice B m d]) (by repeat (first | exact List.mem_cons_self | refine List.mem_cons_of_mem _ ?_)) rfl
        have x4 := X.out.at_ (g := w.heap.size) (i := 4) (v := .int .i64 ct) (cs := [.int .i64 k, .int .i64 s, .int .i64 p, .int .i64 q, .int .i64 ct, .int .i64 1, .int .i64 vk, .int .i64 vn, .slice A n c, .slice B m d]) (by repeat (first | exact List.mem_cons_self | refine List.mem_cons_of_mem _ ?_)) rfl
        have x5 := X.out.at_ (g := w.heap.size) (i := 5) (v := .int .i64 1) (cs := [.int .i64 k, .int .i64 s, .int .i64 p, .int .i64 q, .int .i64 ct, .int .i64 1, .int .i64 vk, .int .i64 vn, .slice A n c, .slice B m d]) (by repeat (first | exact List.mem_cons_self | refine List.mem_cons_of_mem _ ?_)) rfl
        have x6 := X.out.at_ (g := w.heap.size) (i := 6) (v := .int .i64 vk) (cs := [.int .i64 k, .int .i64 s, .int .i64 p, .int .i64 q, .int .i64 ct, .int .i64 1, .int .i64 vk, .int .i64 vn, .slice A n c, .slice B m d]) (by repeat (first | exact List.mem_cons_self | refine List.mem_cons_of_mem _ ?_)) rfl
        have x7 := X.out.at_ (g := w.heap.size) (i := 7) (v := .int .i64 vn) (cs := [.int .i64 k, .int .i64 s, .int .i64 p, .int .i64 q, .int .i64 ct, .int .i64 1, .int .i64 vk, .int .i64 vn, .slice A n c, .slice B m d]) (by repeat (first | exact List.mem_cons_self | refine List.mem_cons_of_mem _ ?_)) rfl
        have x8 := X.out.at_ (g := w.heap.size) (i := 8) (v := .slice A n c) (cs := [.int .i64 k, .int .i64 s, .int .i64 p, .int .i64 q, .int .i64 ct, .int .i64 1, .int .i64 vk, .int .i64 vn, .slice A n c, .slice B m d]) (by repeat (first | exact List.mem_cons_self | refine List.mem_cons_of_mem _ ?_)) rfl
        have x9 := X.out.at_ (g := w.heap.size) (i := 9) (v := .slice B m d) (cs := [.int .i64 k, .int .i64 s, .int .i64 p, .int .i64 q, .int .i64 ct, .int .i64 1, .int .i64 vk, .int .i64 vn, .slice A n c, .slice B m d]) (by repeat (first | exact List.mem_cons_self | refine List.mem_cons_of_mem _ ?_)) rfl
        go_wp2_with fail
        go_ret
        exact GivesBool.of HN.out X.out.1
  by_cases s2 : st = 2
  · subst s2
    rcases h0 : isVal ⟨vk, vn⟩ e with _ | _
    · have H0 := Lib.hid h0
      have HN : Hid (false = promV 2 ⟨vk, vn⟩ p q ct n m e) := Lib.hid (by simp only [promV]; simp only [Int.reduceEq, if_true, if_false]; simp only [H0.out, Bool.true_and, Bool.false_and, Bool.and_true, Bool.and_false])
      clear h0
      go_enter Try.func123, Try.ntmps123
      go_wp2_with fail
      refine (implIsVal ⟨vk, vn⟩ e _).mono ?_
      rintro e w0 ⟨rfl, hb⟩
      rw [H0.out]
      replace X := Lib.hid (X.out.below hb)
      clear hb
      have x0 := X.out.at_ (g := w.heap.size) (i := 0) (v := .int .i64 k) (cs := [.int .i64 k, .int .i64 s, .int .i64 p, .int .i64 q, .int .i64 ct, .int .i64 2, .int .i64 vk, .int .i64 vn, .slice A n c, .slice B m d]) (by repeat (first | exact List.mem_cons_self | refine List.mem_cons_of_mem _ ?_)) rfl
      have x1 := X.out.at_ (g := w.heap.size) (i := 1) (v := .int .i64 s) (cs := [.int .i64 k, .int .i64 s, .int .i64 p, .int .i64 q, .int .i64 ct, .int .i64 2, .int .i64 vk, .int .i64 vn, .slice A n c, .slice B m d]) (by repeat (first | exact List.mem_cons_self | refine List.mem_cons_of_mem _ ?_)) rfl
      have x2 := X.out.at_ (g := w.heap.size) (i := 2) (v := .int .i64 p) (cs := [.int .i64 k, .int .i64 s, .int .i64 p, .int .i64 q, .int .i64 ct, .int .i64 2, .int .i64 vk, .int .i64 vn, .slice A n c, .slice B m d]) (by repeat (first | exact List.mem_cons_self | refine List.mem_cons_of_mem _ ?_)) rfl
      have x3 := X.out.at_ (g := w.heap.size) (i := 3) (v := .int .i64 q) (cs := [.int .i64 k, .int .i64 s, .int .i64 p, .int .i64 q, .int .i64 ct, .int .i64 2, .int .i64 vk, .int .i64 vn, .slice A n c, .slice B m d]) (by repeat (first | exact List.mem_cons_self | refine List.mem_cons_of_mem _ ?_)) rfl
      have x4 := X.out.at_ (g := w.heap.size) (i := 4) (v := .int .i64 ct) (cs := [.int .i64 k, .int .i64 s, .int .i64 p, .int .i64 q, .int .i64 ct, .int .i64 2, .int .i64 vk, .int .i64 vn, .slice A n c, .slice B m d]) (by repeat (first | exact List.mem_cons_self | refine List.mem_cons_of_mem _ ?_)) rfl
      have x5 := X.out.at_ (g := w.heap.size) (i := 5) (v := .int .i64 2) (cs := [.int .i64 k, .int .i64 s, .int .i64 p, .int .i64 q, .int .i64 ct, .int .i64 2, .int .i64 vk, .int .i64 vn, .slice A n c, .slice B m d]) (by repeat (first | exact List.mem_cons_self | refine List.mem_cons_of_mem _ ?_)) rfl
      have x6 := X.out.at_ (g := w.heap.size) (i := 6) (v := .int .i64 vk) (cs := [.int .i64 k, .int .i64 s, .int .i64 p, .int .i64 q, .int .i64 ct, .int .i64 2, .int .i64 vk, .int .i64 vn, .slice A n c, .slice B m d]) (by repeat (first | exact List.mem_cons_self | refine List.mem_cons_of_mem _ ?_)) rfl
      have x7 := X.out.at_ (g := w.heap.size) (i := 7) (v := .int .i64 vn) (cs := [.int .i64 k, .int .i64 s, .int .i64 p, .int .i64 q, .int .i64 ct, .int .i64 2, .int .i64 vk, .int .i64 vn, .slice A n c, .slice B m d]) (by repeat (first | exact List.mem_cons_self | refine List.mem_cons_of_mem _ ?_)) rfl
      have x8 := X.out.at_ (g := w.heap.size) (i := 8) (v := .slice A n c) (cs := [.int .i64 k, .int .i64 s, .int .i64 p, .int .i64 q, .int .i64 ct, .int .i64 2, .int .i64 vk, .int .i64 vn, .slice A n c, .slice B m d]) (by repeat (first | exact List.mem_cons_self | refine List.mem_cons_of_mem _ ?_)) rfl
      have x9 := X.out.at_ (g := w.heap.size) (i := 9) (v := .slice B m d) (cs := [.int .i64 k, .int .i64 s, .int .i64 p, .int .i64 q, .int .i64 ct, .int .i64 2, .int .i64 vk, .int .i64 vn, .slice A n c, .slice B m d]) (by repeat (first | exact List.mem_cons_self | refine List.mem_cons_of_mem _ ?_)) rfl
      go_wp2_with fail
      go_ret
      exact GivesBool.of HN.out X.out.1
    · have H0 := Lib.hid h0
      clear h0
      rcases h1 : nowh p q ct with _ | _
      · have H1 := Lib.hid h1
        have HN : Hid (false = promV 2 ⟨vk, vn⟩ p q ct n m e) := Lib.hid (by simp only [promV]; simp only [Int.reduceEq, if_true, if_false]; simp only [H0.out, H1.out, Bool.true_and, Bool.false_and, Bool.and_true, Bool.and_false])
        clear h1
        go_enter Try.func123, Try.ntmps123
        go_wp2_with fail
        refine (implIsVal ⟨vk, vn⟩ e _).mono ?_
        rintro e w0 ⟨rfl, hb⟩
        rw [H0.out]
        replace X := Lib.hid (X.out.below hb)
        clear hb
        have x0 := X.out.at_ (g := w.heap.size) (i := 0) (v := .int .i64 k) (cs := [.int .i64 k, .int .i64 s, .int .i64 p, .int .i64 q, .int .i64 ct, .int .i64 2, .int .i64 vk, .int .i64 vn, .slice A n c, .slice B m d]) (by repeat (first | exact List.mem_cons_self | refine List.mem_cons_of_mem _ ?_)) rfl
        have x1 := X.out.at_ (g := w.heap.size) (i := 1) (v := .int .i64 s) (cs := [.int .i64 k, .int .i64 s, .int .i64 p, .int .i64 q, .int .i64 ct, .int .i64 2, .int .i64 vk, .int .i64 vn, .slice A n c, .slice B m d]) (by repeat (first | exact List.mem_cons_self | refine List.mem_cons_of_mem _ ?_)) rfl
        have x2 := X.out.at_ (g := w.heap.size) (i := 2) (v := .int .i64 p) (cs := [.int .i64 k, .int .i64 s, .int .i64 p, .int .i64 q, .int .i64 ct, .int .i64 2, .int .i64 vk, .int .i64 vn, .slice A n c, .slice B m d]) (by repeat (first | exact List.mem_cons_self | refine List.mem_cons_of_mem _ ?_)) rfl
        have x3 := X.out.at_ (g := w.heap.size) (i := 3) (v := .int .i64 q) (cs := [.int .i64 k, .int .i64 s, .int .i64 p, .int .i64 q, .int .i64 ct, .int .i64 2, .int .i64 vk, .int .i64 vn, .slice A n c, .slice B m d]) (by repeat (first | exact List.mem_cons_self | refine List.mem_cons_of_mem _ ?_)) rfl
        have x4 := X.out.at_ (g := w.heap.size) (i := 4) (v := .int .i64 ct) (cs := [.int .i64 k, .int .i64 s, .int .i64 p, .int .i64 q, .int .i64 ct, .int .i64 2, .int .i64 vk, .int .i64 vn, .slice A n c, .slice B m d]) (by repeat (first | exact List.mem_cons_self | refine List.mem_cons_of_mem _ ?_)) rfl
        have x5 := X.out.at_ (g := w.heap.size) (i := 5) (v := .int .i64 2) (cs := [.int .i64 k, .int .i64 s, .int .i64 p, .int .i64 q, .int .i64 ct, .int .i64 2, .int .i64 vk, .int .i64 vn, .slice A n c, .slice B m d]) (by repeat (first | exact List.mem_cons_self | refine List.mem_cons_of_mem _ ?_)) rfl
        have x6 := X.out.at_ (g := w.heap.size) (i := 6) (v := .int .i64 vk) (cs := [.int .i64 k, .int .i64 s, .int .i64 p, .int .i64 q, .int .i64 ct, .int .i64 2, .int .i64 vk, .int .i64 vn, .slice A n c, .slice B m d]) (by repeat (first | exact List.mem_cons_self | refine List.mem_cons_of_mem _ ?_)) rfl
        have x7 := X.out.at_ (g := w.heap.size) (i := 7) (v := .int .i64 vn) (cs := [.int .i64 k, .int .i64 s, .int .i64 p, .int .i64 q, .int .i64 ct, .int .i64 2, .int .i64 vk, .int .i64 vn, .slice A n c, .slice B m d]) (by repeat (first | exact List.mem_cons_self | refine List.mem_cons_of_mem _ ?_)) rfl
        have x8 := X.out.at_ (g := w.heap.size) (i := 8) (v := .slice A n c) (cs := [.int .i64 k, .int .i64 s, .int .i64 p, .int .i64 q, .int .i64 ct, .int .i64 2, .int .i64 vk, .int .i64 vn, .slice A n c, .slice B m d]) (by repeat (first | exact List.mem_cons_self | refine List.mem_cons_of_mem _ ?_)) rfl
        have x9 := X.out.at_ (g := w.heap.size) (i := 9) (v := .slice B m d) (cs := [.int .i64 k, .int .i64 s, .int .i64 p, .int .i64 q, .int .i64 ct, .int .i64 2, .int .i64 vk, .int .i64 vn, .slice A n c, .slice B m d]) (by repeat (first | exact List.mem_cons_self | refine List.mem_cons_of_mem _ ?_)) rfl
        go_wp2_with fail
        refine (isNowh p q ct _).mono ?_
        rintro e w1 ⟨rfl, hb⟩
        clear x0 x1 x2 x3 x4 x5 x6 x7 x8 x9
        rw [H1.out]
        replace X := Lib.hid (X.out.below hb)
        clear hb
        have x0 := X.out.at_ (g := w.heap.size) (i := 0) (v := .int .i64 k) (cs := [.int .i64 k, .int .i64 s, .int .i64 p, .int .i64 q, .int .i64 ct, .int .i64 2, .int .i64 vk, .int .i64 vn, .slice A n c, .slice B m d]) (by repeat (first | exact List.mem_cons_self | refine List.mem_cons_of_mem _ ?_)) rfl
        have x1 := X.out.at_ (g := w.heap.size) (i := 1) (v := .int .i64 s) (cs := [.int .i64 k, .int .i64 s, .int .i64 p, .int .i64 q, .int .i64 ct, .int .i64 2, .int .i64 vk, .int .i64 vn, .slice A n c, .slice B m d]) (by repeat (first | exact List.mem_cons_self | refine List.mem_cons_of_mem _ ?_)) rfl
        have x2 := X.out.at_ (g := w.heap.size) (i := 2) (v := .int .i64 p) (cs := [.int .i64 k, .int .i64 s, .int .i64 p, .int .i64 q, .int .i64 ct, .int .i64 2, .int .i64 vk, .int .i64 vn, .slice A n c, .slice B m d]) (by repeat (first | exact List.mem_cons_self | refine List.mem_cons_of_mem _ ?_)) rfl
        have x3 := X.out.at_ (g := w.heap.size) (i := 3) (v := .int .i64 q) (cs := [.int .i64 k, .int .i64 s, .int .i64 p, .int .i64 q, .int .i64 ct, .int .i64 2, .int .i64 vk, .int .i64 vn, .slice A n c, .slice B m d]) (by repeat (first | exact List.mem_cons_self | refine List.mem_cons_of_mem _ ?_)) rfl
        have x4 := X.out.at_ (g := w.heap.size) (i := 4) (v := .int .i64 ct) (cs := [.int .i64 k, .int .i64 s, .int .i64 p, .int .i64 q, .int .i64 ct, .int .i64 2, .int .i64 vk, .int .i64 vn, .slice A n c, .slice B m d]) (by repeat (first | exact List.mem_cons_self | refine List.mem_cons_of_mem _ ?_)) rfl
        have x5 := X.out.at_ (g := w.heap.size) (i := 5) (v := .int .i64 2) (cs := [.int .i64 k, .int .i64 s, .int .i64 p, .int .i64 q, .int .i64 ct, .int .i64 2, .int .i64 vk, .int .i64 vn, .slice A n c, .slice B m d]) (by repeat (first | exact List.mem_cons_self | refine List.mem_cons_of_mem _ ?_)) rfl
        have x6 := X.out.at_ (g := w.heap.size) (i := 6) (v := .int .i64 vk) (cs := [.int .i64 k, .int .i64 s, .int .i64 p, .int .i64 q, .int .i64 ct, .int .i64 2, .int .i64 vk, .int .i64 vn, .slice A n c, .slice B m d]) (by repeat (first | exact List.mem_cons_self | refine List.mem_cons_of_mem _ ?_)) rfl
        have x7 := X.out.at_ (g := w.heap.size) (i := 7) (v := .int .i64 vn) (cs := [.int .i64 k, .int .i64 s, .int .i64 p, .int .i64 q, .int .i64 ct, .int .i64 2, .int .i64 vk, .int .i64 vn, .slice A n c, .slice B m d]) (by repeat (first | exact List.mem_cons_self | refine List.mem_cons_of_mem _ ?_)) rfl
        have x8 := X.out.at_ (g := w.heap.size) (i := 8) (v := .slice A n c) (cs := [.int .i64 k, .int .i64 s, .int .i64 p, .int .i64 q, .int .i64 ct, .int .i64 2, .int .i64 vk, .int .i64 vn, .slice A n c, .slice B m d]) (by repeat (first | exact List.mem_cons_self | refine List.mem_cons_of_mem _ ?_)) rfl
        have x9 := X.out.at_ (g := w.heap.size) (i := 9) (v := .slice B m d) (cs := [.int .i64 k, .int .i64 s, .int .i64 p, .int .i64 q, .int .i64 ct, .int .i64 2, .int .i64 vk, .int .i64 vn, .slice A n c, .slice B m d]) (by repeat (first | exact List.mem_cons_self | refine List.mem_cons_of_mem _ ?_)) rfl
        go_wp2_with fail
        go_ret
        exact GivesBool.of HN.out X.out.1
      · have H1 := Lib.hid h1
        clear h1
        rcases h2 : ((n : Int) == 0) with _ | _
        · have H2 := Lib.hid h2
          have HN : Hid (false = promV 2 ⟨vk, vn⟩ p q ct n m e) := Lib.hid (by simp only [promV]; simp only [Int.reduceEq, if_true, if_false]; simp only [H0.out, H1.out, H2.out, Bool.true_and, Bool.false_and, Bool.and_true, Bool.and_false])
          go_enter Try.func123, Try.ntmps123
          go_wp2_with fail
          refine (implIsVal ⟨vk, vn⟩ e _).mono ?_
          rintro e w0 ⟨rfl, hb⟩
          rw [H0.out]
          replace X := Lib.hid (X.out.below hb)
          clear hb
          have x0 := X.out.at_ (g := w.heap.size) (i := 0) (v := .int .i64 k) (cs := [.int .i64 k, .int .i64 s, .int .i64 p, .int .i64 q, .int .i64 ct, .int .i64 2, .int .i64 vk, .int .i64 vn, .slice A n c, .slice B m d]) (by repeat (first | exact List.mem_cons_self | refine List.mem_cons_of_mem _ ?_)) rfl
          have x1 := X.out.at_ (g := w.heap.size) (i := 1) (v := .int .i64 s) (cs := [.int .i64 k, .int .i64 s, .int .i64 p, .int .i64 q, .int .i64 ct, .int .i64 2, .int .i64 vk, .int .i64 vn, .slice A n c, .slice B m d]) (by repeat (first | exact List.mem_cons_self | refine List.mem_cons_of_mem _ ?_)) rfl
          have x2 := X.out.at_ (g := w.heap.size) (i := 2) (v := .int .i64 p) (cs := [.int .i64 k, .int .i64 s, .int .i64 p, .int .i64 q, .int .i64 ct, .int .i64 2, .int .i64 vk, .int .i64 vn, .slice A n c, .slice B m d]) (by repeat (first | exact List.mem_cons_self | refine List.mem_cons_of_mem _ ?_)) rfl
          have x3 := X.out.at_ (g := w.heap.size) (i := 3) (v := .int .i64 q) (cs := [.int .i64 k, .int .i64 s, .int .i64 p, .int .i64 q, .int .i64 ct, .int .i64 2, .int .i64 vk, .int .i64 vn, .slice A n c, .slice B m d]) (by repeat (first | exact List.mem_cons_self | refine List.mem_cons_of_mem _ ?_)) rfl
          have x4 := X.out.at_ (g := w.heap.size) (i := 4) (v := .int .i64 ct) (cs := [.int .i64 k, .int .i64 s, .int .i64 p, .int .i64 q, .int .i64 ct, .int .i64 2, .int .i64 vk, .int .i64 vn, .slice A n c, .slice B m d]) (by repeat (first | exact List.mem_cons_self | refine List.mem_cons_of_mem _ ?_)) rfl
          have x5 := X.out.at_ (g := w.heap.size) (i := 5) (v := .int .i64 2) (cs := [.int .i64 k, .int .i64 s, .int .i64 p, .int .i64 q, .int .i64 ct, .int .i64 2, .int .i64 vk, .int .i64 vn, .slice A n c, .slice B m d]) (by repeat (first | exact List.mem_cons_self | refine List.mem_cons_of_mem _ ?_)) rfl
          have x6 := X.out.at_ (g := w.heap.size) (i := 6) (v := .int .i64 vk) (cs := [.int .i64 k, .int .i64 s, .int .i64 p, .int .i64 q, .int .i64 ct, .int .i64 2, .int .i64 vk, .int .i64 vn, .slice A n c, .slice B m d]) (by repeat (first | exact List.mem_cons_self | refine List.mem_cons_of_mem _ ?_)) rfl
          have x7 := X.out.at_ (g := w.heap.size) (i := 7) (v := .int .i64 vn) (cs := [.int .i64 k, .int .i64 s, .int .i64 p, .int .i64 q, .int .i64 ct, .int .i64 2, .int .i64 vk, .int .i64 vn, .slice A n c, .slice B m d]) (by repeat (first | exact List.mem_cons_self | refine List.mem_cons_of_mem _ ?_)) rfl
          have x8 := X.out.at_ (g := w.heap.size) (i := 8) (v := .slice A n c) (cs := [.int .i64 k, .int .i64 s, .int .i64 p, .int .i64 q, .int .i64 ct, .int .i64 2, .int .i64 vk, .int .i64 vn, .slice A n c, .slice B m d]) (by repeat (first | exact List.mem_cons_self | refine List.mem_cons_of_mem _ ?_)) rfl
          have x9 := X.out.at_ (g := w.heap.size) (i := 9) (v := .slice B m d) (cs := [.int .i64 k, .int .i64 s, .int .i64 p, .int .i64 q, .int .i64 ct, .int .i64 2, .int .i64 vk, .int .i64 vn, .slice A n c, .slice B m d]) (by repeat (first | exact List.mem_cons_self | refine List.mem_cons_of_mem _ ?_)) rfl
          go_wp2_with fail
          refine (isNowh p q ct _).mono ?_
          rintro e w1 ⟨rfl, hb⟩
          clear x0 x1 x2 x3 x4 x5 x6 x7 x8 x9
          rw [H1.out]
          replace X := Lib.hid (X.out.below hb)
          clear hb
          have x0 := X.out.at_ (g := w.heap.size) (i := 0) (v := .int .i64 k) (cs := [.int .i64 k, .int .i64 s, .int .i64 p, .int .i64 q, .int .i64 ct, .int .i64 2, .int .i64 vk, .int .i64 vn, .slice A n c, .slice B m d]) (by repeat (first | exact List.mem_cons_self | refine List.mem_cons_of_mem _ ?_)) rfl
          have x1 := X.out.at_ (g := w.heap.size) (i := 1) (v := .int .i64 s) (cs := [.int .i64 k, .int .i64 s, .int .i64 p, .int .i64 q, .int .i64 ct, .int .i64 2, .int .i64 vk, .int .i64 vn, .slice A n c, .slice B m d]) (by repeat (first | exact List.mem_cons_self | refine List.mem_cons_of_mem _ ?_)) rfl
          have x2 := X.out.at_ (g := w.heap.size) (i := 2) (v := .int .i64 p) (cs := [.int .i64 k, .int .i64 s, .int .i64 p, .int .i64 q, .int .i64 ct, .int .i64 2, .int .i64 vk, .int .i64 vn, .slice A n c, .slice B m d]) (by repeat (first | exact List.mem_cons_self | refine List.mem_cons_of_mem _ ?_)) rfl
          have x3 := X.out.at_ (g := w.heap.size) (i := 3) (v := .int .i64 q) (cs := [.int .i64 k, .int .i64 s, .int .i64 p, .int .i64 q, .int .i64 ct, .int .i64 2, .int .i64 vk, .int .i64 vn, .slice A n c, .slice B m d]) (by repeat (first | exact List.mem_cons_self | refine List.mem_cons_of_mem _ ?_)) rfl
          have x4 := X.out.at_ (g := w.heap.size) (i := 4) (v := .int .i64 ct) (cs := [.int .i64 k, .int .i64 s, .int .i64 p, .int .i64 q, .int .i64 ct, .int .i64 2, .int .i64 vk, .int .i64 vn, .slice A n c, .slice B m d]) (by repeat (first | exact List.mem_cons_self | refine List.mem_cons_of_mem _ ?_)) rfl
          have x5 := X.out.at_ (g := w.heap.size) (i := 5) (v := .int .i64 2) (cs := [.int .i64 k, .int .i64 s, .int .i64 p, .int .i64 q, .int .i64 ct, .int .i64 2, .int .i64 vk, .int .i64 vn, .slice A n c, .slice B m d]) (by repeat (first | exact List.mem_cons_self | refine List.mem_cons_of_mem _ ?_)) rfl
          have x6 := X.out.at_ (g := w.heap.size) (i := 6) (v := .int .i64 vk) (cs := [.int .i64 k, .int .i64 s, .int .i64 p, .int .i64 q, .int .i64 ct, .int .i64 2, .int .i64 vk, .int .i64 vn, .slice A n c, .slice B m d]) (by repeat (first | exact List.mem_cons_self | refine List.mem_cons_of_mem _ ?_)) rfl
          have x7 := X.out.at_ (g := w.heap.size) (i := 7) (v := .int .i64 vn) (cs := [.int .i64 k, .int .i64 s, .int .i64 p, .int .i64 q, .int .i64 ct, .int .i64 2, .int .i64 vk, .int .i64 vn, .slice A n c, .slice B m d]) (by repeat (first | exact List.mem_cons_self | refine List.mem_cons_of_mem _ ?_)) rfl
          have x8 := X.out.at_ (g := w.heap.size) (i := 8) (v := .slice A n c) (cs := [.int .i64 k, .int .i64 s, .int .i64 p, .int .i64 q, .int .i64 ct, .int .i64 2, .int .i64 vk, .int .i64 vn, .slice A n c, .slice B m d]) (by repeat (first | exact List.mem_cons_self | refine List.mem_cons_of_mem _ ?_)) rfl
          have x9 := X.out.at_ (g := w.heap.size) (i := 9) (v := .slice B m d) (cs := [.int .i64 k, .int .i64 s, .int .i64 p, .int .i64 q, .int .i64 ct, .int .i64 2, .int .i64 vk, .int .i64 vn, .slice A n c, .slice B m d]) (by repeat (first | exact List.mem_cons_self | refine List.mem_cons_of_mem _ ?_)) rfl
          go_wp2_with fail
          go_ret
          exact GivesBool.of HN.out X.out.1
        · have H2 := Lib.hid h2
          obtain ⟨b3, h3⟩ : ∃ b3, ((m : Int) == 0) = b3 := ⟨_, rfl⟩
          have H3 := Lib.hid h3
          have HN : Hid (((m : Int) == 0) = promV 2 ⟨vk, vn⟩ p q ct n m e) := Lib.hid (by simp only [promV]; simp only [Int.reduceEq, if_true, if_false]; simp only [H0.out, H1.out, H2.out, Bool.true_and, Bool.true_and, Bool.and_true])
          clear h3
          go_enter Try.func123, Try.ntmps123
          go_wp2_with fail
          refine (implIsVal ⟨vk, vn⟩ e _).mono ?_
          rintro e w0 ⟨rfl, hb⟩
          rw [H0.out]
          replace X := Lib.hid (X.out.below hb)
          clear hb
          have x0 := X.out.at_ (g := w.heap.size) (i := 0) (v := .int .i64 k) (cs := [.int .i64 k, .int .i64 s, .int .i64 p, .int .i64 q, .int .i64 ct, .int .i64 2, .int .i64 vk, .int .i64 vn, .slice A n c, .slice B m d]) (by repeat (first | exact List.mem_cons_self | refine List.mem_cons_of_mem _ ?_)) rfl
          have x1 := X.out.at_ (g := w.heap.size) (i := 1) (v := .int .i64 s) (cs := [.int .i64 k, .int .i64 s, .int .i64 p, .int .i64 q, .int .i64 ct, .int .i64 2, .int .i64 vk, .int .i64 vn, .slice A n c, .slice B m d]) (by repeat (first | exact List.mem_cons_self | refine List.mem_cons_of_mem _ ?_)) rfl
          have x2 := X.out.at_ (g := w.heap.size) (i := 2) (v := .int .i64 p) (cs := [.int .i64 k, .int .i64 s, .int .i64 p, .int .i64 q, .int .i64 ct, .int .i64 2, .int .i64 vk, .int .i64 vn, .slice A n c, .slice B m d]) (by repeat (first | exact List.mem_cons_self | refine List.mem_cons_of_mem _ ?_)) rfl
          have x3 := X.out.at_ (g := w.heap.size) (i := 3) (v := .int .i64 q) (cs := [.int .i64 k, .int .i64 s, .int .i64 p, .int .i64 q, .int .i64 ct, .int .i64 2, .int .i64 vk, .int .i64 vn, .slice A n c, .slice B m d]) (by repeat (first | exact List.mem_cons_self | refine List.mem_cons_of_mem _ ?_)) rfl
          have x4 := X.out.at_ (g := w.heap.size) (i := 4) (v := .int .i64 ct) (cs := [.int .i64 k, .int .i64 s, .int .i64 p, .int .i64 q, .int .i64 ct, .int .i64 2, .int .i64 vk, .int .i64 vn, .slice A n c, .slice B m d]) (by repeat (first | exact List.mem_cons_self | refine List.mem_cons_of_mem _ ?_)) rfl
          have x5 := X.out.at_ (g := w.heap.size) (i := 5) (v := .int .i64 2) (cs := [.int .i64 k, .int .i64 s, .int .i64 p, .int .i64 q, .int .i64 ct, .int .i64 2, .int .i64 vk, .int .i64 vn, .slice A n c, .slice B m d]) (by repeat (first | exact List.mem_cons_self | refine List.mem_cons_of_mem _ ?_)) rfl
          have x6 := X.out.at_ (g := w.heap.size) (i := 6) (v := .int .i64 vk) (cs := [.int .i64 k, .int .i64 s, .int .i64 p, .int .i64 q, .int .i64 ct, .int .i64 2, .int .i64 vk, .int .i64 vn, .slice A n c, .slice B m d]) (by repeat (first | exact List.mem_cons_self | refine List.mem_cons_of_mem _ ?_)) rfl
          have x7 := X.out.at_ (g := w.heap.size) (i := 7) (v := .int .i64 vn) (cs := [.int .i64 k, .int .i64 s, .int .i64 p, .int .i64 q, .int .i64 ct, .int .i64 2, .int .i64 vk, .int .i64 vn, .slice A n c, .slice B m d]) (by repeat (first | exact List.mem_cons_self | refine List.mem_cons_of_mem _ ?_)) rfl
          have x8 := X.out.at_ (g := w.heap.size) (i := 8) (v := .slice A n c) (cs := [.int .i64 k, .int .i64 s, .int .i64 p, .int .i64 q, .int .i64 ct, .int .i64 2, .int .i64 vk, .int .i64 vn, .slice A n c, .slice B m d]) (by repeat (first | exact List.mem_cons_self | refine List.mem_cons_of_mem _ ?_)) rfl
          have x9 := X.out.at_ (g := w.heap.size) (i := 9) (v := .slice B m d) (cs := [.int .i64 k, .int .i64 s, .int .i64 p, .int .i64 q, .int .i64 ct, .int .i64 2, .int .i64 vk, .int .i64 vn, .slice A n c, .slice B m d]) (by repeat (first | exact List.mem_cons_self | refine List.mem_cons_of_mem _ ?_)) rfl
          go_wp2_with fail
          refine (isNowh p q ct _).mono ?_
          rintro e w1 ⟨rfl, hb⟩
          clear x0 x1 x2 x3 x4 x5 x6 x7 x8 x9
          rw [H1.out]
          replace X := Lib.hid (X.out.below hb)
          clear hb
          have x0 := X.out.at_ (g := w.heap.size) (i := 0) (v := .int .i64 k) (cs := [.int .i64 k, .int .i64 s, .int .i64 p, .int .i64 q, .int .i64 ct, .int .i64 2, .int .i64 vk, .int .i64 vn, .slice A n c, .slice B m d]) (by repeat (first | exact List.mem_cons_self | refine List.mem_cons_of_mem _ ?_)) rfl
          have x1 := X.out.at_ (g := w.heap.size) (i := 1) (v := .int .i64 s) (cs := [.int .i64 k, .int .i64 s, .int .i64 p, .int .i64 q, .int .i64 ct, .int .i64 2, .int .i64 vk, .int .i64 vn, .slice A n c, .slice B m d]) (by repeat (first | exact List.mem_cons_self | refine List.mem_cons_of_mem _ ?_)) rfl
          have x2 := X.out.at_ (g := w.heap.size) (i := 2) (v := .int .i64 p) (cs := [.int .i64 k, .int .i64 s, .int .i64 p, .int .i64 q, .int .i64 ct, .int .i64 2, .int .i64 vk, .int .i64 vn, .slice A n c, .slice B m d]) (by repeat (first | exact List.mem_cons_self | refine List.mem_cons_of_mem _ ?_)) rfl
          have x3 := X.out.at_ (g := w.heap.size) (i := 3) (v := .int .i64 q) (cs := [.int .i64 k, .int .i64 s, .int .i64 p, .int .i64 q, .int .i64 ct, .int .i64 2, .int .i64 vk, .int .i64 vn, .slice A n c, .slice B m d]) (by repeat (first | exact List.mem_cons_self | refine List.mem_cons_of_mem _ ?_)) rfl
          have x4 := X.out.at_ (g := w.heap.size) (i := 4) (v := .int .i64 ct) (cs := [.int .i64 k, .int .i64 s, .int .i64 p, .int .i64 q, .int .i64 ct, .int .i64 2, .int .i64 vk, .int .i64 vn, .slice A n c, .slice B m d]) (by repeat (first | exact List.mem_cons_self | refine List.mem_cons_of_mem _ ?_)) rfl
          have x5 := X.out.at_ (g := w.heap.size) (i := 5) (v := .int .i64 2) (cs := [.int .i64 k, .int .i64 s, .int .i64 p, .int .i64 q, .int .i64 ct, .int .i64 2, .int .i64 vk, .int .i64 vn, .slice A n c, .slice B m d]) (by repeat (first | exact List.mem_cons_self | refine List.mem_cons_of_mem _ ?_)) rfl
          have x6 := X.out.at_ (g := w.heap.size) (i := 6) (v := .int .i64 vk) (cs := [.int .i64 k, .int .i64 s, .int .i64 p, .int .i64 q, .int .i64 ct, .int .i64 2, .int .i64 vk, .int .i64 vn, .slice A n c, .slice B m d]) (by repeat (first | exact List.mem_cons_self | refine List.mem_cons_of_mem _ ?_)) rfl
          have x7 := X.out.at_ (g := w.heap.size) (i := 7) (v := .int .i64 vn) (cs := [.int .i64 k, .int .i64 s, .int .i64 p, .int .i64 q, .int .i64 ct, .int .i64 2, .int .i64 vk, .int .i64 vn, .slice A n c, .slice B m d]) (by repeat (first | exact List.mem_cons_self | refine List.mem_cons_of_mem _ ?_)) rfl
          have x8 := X.out.at_ (g := w.heap.size) (i := 8) (v := .slice A n c) (cs := [.int .i64 k, .int .i64 s, .int .i64 p, .int .i64 q, .int .i64 ct, .int .i64 2, .int .i64 vk, .int .i64 vn, .slice A n c, .slice B m d]) (by repeat (first | exact List.mem_cons_self | refine List.mem_cons_of_mem _ ?_)) rfl
          have x9 := X.out.at_ (g := w.heap.size) (i := 9) (v := .slice B m d) (cs := [.int .i64 k, .int .i64 s, .int .i64 p, .int .i64 q, .int .i64 ct, .int .i64 2, .int .i64 vk, .int .i64 vn, .slice A n c, .slice B m d]) (by repeat (first | exact List.mem_cons_self | refine List.mem_cons_of_mem _ ?_)) rfl
          go_wp2_with fail
          go_ret
          exact GivesBool.of HN.out X.out.1
  by_cases s3 : st = 3
  · subst s3
    rcases h0 : nov vk vn with _ | _
    · have H0 := Lib.hid h0
      have HN : Hid (false = promV 3 ⟨vk, vn⟩ p q ct n m e) := Lib.hid (by simp only [promV]; simp only [Int.reduceEq, if_true, if_false]; simp only [H0.out, Bool.true_and, Bool.false_and, Bool.and_true, Bool.and_false])
      clear h0
      go_enter Try.func123, Try.ntmps123
      go_wp2_with fail
      refine (hasNov k s p q ct _ vk vn A B n c m d _).mono ?_
      rintro e w0 ⟨rfl, hb⟩
      rw [H0.out]
      replace X := Lib.hid (X.out.below hb)
      clear hb
      have x0 := X.out.at_ (g := w.heap.size) (i := 0) (v := .int .i64 k) (cs := [.int .i64 k, .int .i64 s, .int .i64 p, .int .i64 q, .int .i64 ct, .int .i64 3, .int .i64 vk, .int .i64 vn, .slice A n c, .slice B m d]) (by repeat (first | exact List.mem_cons_self | refine List.mem_cons_of_mem _ ?_)) rfl
      have x1 := X.out.at_ (g := w.heap.size) (i := 1) (v := .int .i64 s) (cs := [.int .i64 k, .int .i64 s, .int .i64 p, .int .i64 q, .int .i64 ct, .int .i64 3, .int .i64 vk, .int .i64 vn, .slice A n c, .slice B m d]) (by repeat (first | exact List.mem_cons_self | refine List.mem_cons_of_mem _ ?_)) rfl
      have x2 := X.out.at_ (g := w.heap.size) (i := 2) (v := .int .i64 p) (cs := [.int .i64 k, .int .i64 s, .int .i64 p, .int .i64 q, .int .i64 ct, .int .i64 3, .int .i64 vk, .int .i64 vn, .slice A n c, .slice B m d]) (by repeat (first | exact List.mem_cons_self | refine List.mem_cons_of_mem _ ?_)) rfl
      have x3 := X.out.at_ (g := w.heap.size) (i := 3) (v := .int .i64 q) (cs := [.int .i64 k, .int .i64 s, .int .i64 p, .int .i64 q, .int .i64 ct, .int .i64 3, .int .i64 vk, .int .i64 vn, .slice A n c, .slice B m d]) (by repeat (first | exact List.mem_cons_self | refine List.mem_cons_of_mem _ ?_)) rfl
      have x4 := X.out.at_ (g := w.heap.size) (i := 4) (v := .int .i64 ct) (cs := [.int .i64 k, .int .i64 s, .int .i64 p, .int .i64 q, .int .i64 ct, .int .i64 3, .int .i64 vk, .int .i64 vn, .slice A n c, .slice B m d]) (by repeat (first | exact List.mem_cons_self | refine List.mem_cons_of_mem _ ?_)) rfl
      have x5 := X.out.at_ (g := w.heap.size) (i := 5) (v := .int .i64 3) (cs := [.int .i64 k, .int .i64 s, .int .i64 p, .int .i64 q, .int .i64 ct, .int .i64 3, .int .i64 vk, .int .i64 vn, .slice A n c, .slice B m d]) (by repeat (first | exact List.mem_cons_self | refine List.mem_cons_of_mem _ ?_)) rfl
      have x6 := X.out.at_ (g := w.heap.size) (i := 6) (v := .int .i64 vk) (cs := [.int .i64 k, .int .i64 s, .int .i64 p, .int .i64 q, .int .i64 ct, .int .i64 3, .int .i64 vk, .int .i64 vn, .slice A n c, .slice B m d]) (by repeat (first | exact List.mem_cons_self | refine List.mem_cons_of_mem _ ?_)) rfl
      have x7 := X.out.at_ (g := w.heap.size) (i := 7) (v := .int .i64 vn) (cs := [.int .i64 k, .int .i64 s, .int .i64 p, .int .i64 q, .int .i64 ct, .int .i64 3, .int .i64 vk, .int .i64 vn, .slice A n c, .slice B m d]) (by repeat (first | exact List.mem_cons_self | refine List.mem_cons_of_mem _ ?_)) rfl
      have x8 := X.out.at_ (g := w.heap.size) (i := 8) (v := .slice A n c) (cs := [.int .i64 k, .int .i64 s, .int .i64 p, .int .i64 q, .int .i64 ct, .int .i64 3, .int .i64 vk, .int .i64 vn, .slice A n c, .slice B m d]) (by repeat (first | exact List.mem_cons_self | refine List.mem_cons_of_mem _ ?_)) rfl
      have x9 := X.out.at_ (g := w.heap.size) (i := 9) (v := .slice B m d) (cs := [.int .i64 k, .int .i64 s, .int .i64 p, .int .i64 q, .int .i64 ct, .int .i64 3, .int .i64 vk, .int .i64 vn, .slice A n c, .slice B m d]) (by repeat (first | exact List.mem_cons_self | refine List.mem_cons_of_mem _ ?_)) rfl
      go_wp2_with fail
      go_ret
      exact GivesBool.of HN.out X.out.1
    · have H0 := Lib.hid h0
      clear h0
      rcases h1 : somew p q ct 0 with _ | _
      · have H1 := Lib.hid h1
        have HN : Hid (false = promV 3 ⟨vk, vn⟩ p q ct n m e) := Lib.hid (by simp only [promV]; simp only [Int.reduceEq, if_true, if_false]; simp only [H0.out, H1.out, Bool.true_and, Bool.false_and, Bool.and_true, Bool.and_false])
        clear h1
        go_enter Try.func123, Try.ntmps123
        go_wp2_with fail
        refine (hasNov k s p q ct _ vk vn A B n c m d _).mono ?_
        rintro e w0 ⟨rfl, hb⟩
        rw [H0.out]
        replace X := Lib.hid (X.out.below hb)
        clear hb
        have x0 := X.out.at_ (g := w.heap.size) (i := 0) (v := .int .i64 k) (cs := [.int .i64 k, .int .i64 s, .int .i64 p, .int .i64 q, .int .i64 ct, .int .i64 3, .int .i64 vk, .int .i64 vn, .slice A n c, .slice B m d]) (by repeat (first | exact List.mem_cons_self | refine List.mem_cons_of_mem _ ?_)) rfl
        have x1 := X.out.at_ (g := w.heap.size) (i := 1) (v := .int .i64 s) (cs := [.int .i64 k, .int .i64 s, .int .i64 p, .int .i64 q, .int .i64 ct, .int .i64 3, .int .i64 vk, .int .i64 vn, .slice A n c, .slice B m d]) (by repeat (first | exact List.mem_cons_self | refine List.mem_cons_of_mem _ ?_)) rfl
        have x2 := X.out.at_ (g := w.heap.size) (i := 2) (v := .int .i64 p) (cs := [.int .i64 k, .int .i64 s, .int .i64 p, .int .i64 q, .int .i64 ct, .int .i64 3, .int .i64 vk, .int .i64 vn, .slice A n c, .slice B m d]) (by repeat (first | exact List.mem_cons_self | refine List.mem_cons_of_mem _ ?_)) rfl
        have x3 := X.out.at_ (g := w.heap.size) (i := 3) (v := .int .i64 q) (cs := [.int .i64 k, .int .i64 s, .int .i64 p, .int .i64 q, .int .i64 ct, .int .i64 3, .int .i64 vk, .int .i64 vn, .slice A n c, .slice B m d]) (by repeat (first | exact List.mem_cons_self | refine List.mem_cons_of_mem _ ?_)) rfl
        have x4 := X.out.at_ (g := w.heap.size) (i := 4) (v := .int .i64 ct) (cs := [.int .i64 k, .int .i64 s, .int .i64 p, .int .i64 q, .int .i64 ct, .int .i64 3, .int .i64 vk, .int .i64 vn, .slice A n c, .slice B m d]) (by repeat (first | exact List.mem_cons_self | refine List.mem_cons_of_mem _ ?_)) rfl
        have x5 := X.out.at_ (g := w.heap.size) (i := 5) (v := .int .i64 3) (cs := [.int .i64 k, .int .i64 s, .int .i64 p, .int .i64 q, .int .i64 ct, .int .i64 3, .int .i64 vk, .int .i64 vn, .slice A n c, .slice B m d]) (by repeat (first | exact List.mem_cons_self | refine List.mem_cons_of_mem _ ?_)) rfl
        have x6 := X.out.at_ (g := w.heap.size) (i := 6) (v := .int .i64 vk) (cs := [.int .i64 k, .int .i64 s, .int .i64 p, .int .i64 q, .int .i64 ct, .int .i64 3, .int .i64 vk, .int .i64 vn, .slice A n c, .slice B m d]) (by repeat (first | exact List.mem_cons_self | refine List.mem_cons_of_mem _ ?_)) rfl
        have x7 := X.out.at_ (g := w.heap.size) (i := 7) (v := .int .i64 vn) (cs := [.int .i64 k, .int .i64 s, .int .i64 p, .int .i64 q, .int .i64 ct, .int .i64 3, .int .i64 vk, .int .i64 vn, .slice A n c, .slice B m d]) (by repeat (first | exact List.mem_cons_self | refine List.mem_cons_of_mem _ ?_)) rfl
        have x8 := X.out.at_ (g := w.heap.size) (i := 8) (v := .slice A n c) (cs := [.int .i64 k, .int .i64 s, .int .i64 p, .int .i64 q, .int .i64 ct, .int .i64 3, .int .i64 vk, .int .i64 vn, .slice A n c, .slice B m d]) (by repeat (first | exact List.mem_cons_self | refine List.mem_cons_of_mem _ ?_)) rfl
        have x9 := X.out.at_ (g := w.heap.size) (i := 9) (v := .slice B m d) (cs := [.int .i64 k, .int .i64 s, .int .i64 p, .int .i64 q, .int .i64 ct, .int .i64 3, .int .i64 vk, .int .i64 vn, .slice A n c, .slice B m d]) (by repeat (first | exact List.mem_cons_self | refine List.mem_cons_of_mem _ ?_)) rfl
        go_wp2_with fail
        refine (isSomew p q ct 0 _).mono ?_
        rintro e w1 ⟨rfl, hb⟩
        clear x0 x1 x2 x3 x4 x5 x6 x7 x8 x9
        rw [H1.out]
        replace X := Lib.hid (X.out.below hb)
        clear hb
        have x0 := X.out.at_ (g := w.heap.size) (i := 0) (v := .int .i64 k) (cs := [.int .i64 k, .int .i64 s, .int .i64 p, .int .i64 q, .int .i64 ct, .int .i64 3, .int .i64 vk, .int .i64 vn, .slice A n c, .slice B m d]) (by repeat (first | exact List.mem_cons_self | refine List.mem_cons_of_mem _ ?_)) rfl
        have x1 := X.out.at_ (g := w.heap.size) (i := 1) (v := .int .i64 s) (cs := [.int .i64 k, .int .i64 s, .int .i64 p, .int .i64 q, .int .i64 ct, .int .i64 3, .int .i64 vk, .int .i64 vn, .slice A n c, .slice B m d]) (by repeat (first | exact List.mem_cons_self | refine List.mem_cons_of_mem _ ?_)) rfl
        have x2 := X.out.at_ (g := w.heap.size) (i := 2) (v := .int .i64 p) (cs := [.int .i64 k, .int .i64 s, .int .i64 p, .int .i64 q, .int .i64 ct, .int .i64 3, .int .i64 vk, .int .i64 vn, .slice A n c, .slice B m d]) (by repeat (first | exact List.mem_cons_self | refine List.mem_cons_of_mem _ ?_)) rfl
        have x3 := X.out.at_ (g := w.heap.size) (i := 3) (v := .int .i64 q) (cs := [.int .i64 k, .int .i64 s, .int .i64 p, .int .i64 q, .int .i64 ct, .int .i64 3, .int .i64 vk, .int .i64 vn, .slice A n c, .slice B m d]) (by repeat (first | exact List.mem_cons_self | refine List.mem_cons_of_mem _ ?_)) rfl
        have x4 := X.out.at_ (g := w.heap.size) (i := 4) (v := .int .i64 ct) (cs := [.int .i64 k, .int .i64 s, .int .i64 p, .int .i64 q, .int .i64 ct, .int .i64 3, .int .i64 vk, .int .i64 vn, .slice A n c, .slice B m d]) (by repeat (first | exact List.mem_cons_self | refine List.mem_cons_of_mem _ ?_)) rfl
        have x5 := X.out.at_ (g := w.heap.size) (i := 5) (v := .int .i64 3) (cs := [.int .i64 k, .int .i64 s, .int .i64 p, .int .i64 q, .int .i64 ct, .int .i64 3, .int .i64 vk, .int .i64 vn, .slice A n c, .slice B m d]) (by repeat (first | exact List.mem_cons_self | refine List.mem_cons_of_mem _ ?_)) rfl
        have x6 := X.out.at_ (g := w.heap.size) (i := 6) (v := .int .i64 vk) (cs := [.int .i64 k, .int .i64 s, .int .i64 p, .int .i64 q, .int .i64 ct, .int .i64 3, .int .i64 vk, .int .i64 vn, .slice A n c, .slice B m d]) (by repeat (first | exact List.mem_cons_self | refine List.mem_cons_of_mem _ ?_)) rfl
        have x7 := X.out.at_ (g := w.heap.size) (i := 7) (v := .int .i64 vn) (cs := [.int .i64 k, .int .i64 s, .int .i64 p, .int .i64 q, .int .i64 ct, .int .i64 3, .int .i64 vk, .int .i64 vn, .slice A n c, .slice B m d]) (by repeat (first | exact List.mem_cons_self | refine List.mem_cons_of_mem _ ?_)) rfl
        have x8 := X.out.at_ (g := w.heap.size) (i := 8) (v := .slice A n c) (cs := [.int .i64 k, .int .i64 s, .int .i64 p, .int .i64 q, .int .i64 ct, .int .i64 3, .int .i64 vk, .int .i64 vn, .slice A n c, .slice B m d]) (by repeat (first | exact List.mem_cons_self | refine List.mem_cons_of_mem _ ?_)) rfl
        have x9 := X.out.at_ (g := w.heap.size) (i := 9) (v := .slice B m d) (cs := [.int .i64 k, .int .i64 s, .int .i64 p, .int .i64 q, .int .i64 ct, .int .i64 3, .int .i64 vk, .int .i64 vn, .slice A n c, .slice B m d]) (by repeat (first | exact List.mem_cons_self | refine List.mem_cons_of_mem _ ?_)) rfl
        go_wp2_with fail
        go_ret
        exact GivesBool.of HN.out X.out.1
      · have H1 := Lib.hid h1
        clear h1
        obtain ⟨b2, h2⟩ : ∃ b2, ((n : Int) == 0) = b2 := ⟨_, rfl⟩
        have H2 := Lib.hid h2
        have HN : Hid (((n : Int) == 0) = promV 3 ⟨vk, vn⟩ p q ct n m e) := Lib.hid (by simp only [promV]; simp only [Int.reduceEq, if_true, if_false]; simp only [H0.out, H1.out, Bool.true_and, Bool.true_and, Bool.and_true])
        clear h2
        go_enter Try.func123, Try.ntmps123
        go_wp2_with fail
        refine (hasNov k s p q ct _ vk vn A B n c m d _).mono ?_
        rintro e w0 ⟨rfl, hb⟩
        rw [H0.out]
        replace X := Lib.hid (X.out.below hb)
        clear hb
        have x0 := X.out.at_ (g := w.heap.size) (i := 0) (v := .int .i64 k) (cs := [.int .i64 k, .int .i64 s, .int .i64 p, .int .i64 q, .int .i64 ct, .int .i64 3, .int .i64 vk, .int .i64 vn, .slice A n c, .slice B m d]) (by repeat (first | exact List.mem_cons_self | refine List.mem_cons_of_mem _ ?_)) rfl
        have x1 := X.out.at_ (g := w.heap.size) (i := 1) (v := .int .i64 s) (cs := [.int .i64 k, .int .i64 s, .int .i64 p, .int .i64 q, .int .i64 ct, .int .i64 3, .int .i64 vk, .int .i64 vn, .slice A n c, .slice B m d]) (by repeat (first | exact List.mem_cons_self | refine List.mem_cons_of_mem _ ?_)) rfl
        have x2 := X.out.at_ (g := w.heap.size) (i := 2) (v := .int .i64 p) (cs := [.int .i64 k, .int .i64 s, .int .i64 p, .int .i64 q, .int .i64 ct, .int .i64 3, .int .i64 vk, .int .i64 vn, .slice A n c, .slice B m d]) (by repeat (first | exact List.mem_cons_self | refine List.mem_cons_of_mem _ ?_)) rfl
        have x3 := X.out.at_ (g := w.heap.size) (i := 3) (v := .int .i64 q) (cs := [.int .i64 k, .int .i64 s, .int .i64 p, .int .i64 q, .int .i64 ct, .int .i64 3, .int .i64 vk, .int .i64 vn, .slice A n c, .slice B m d]) (by repeat (first | exact List.mem_cons_self | refine List.mem_cons_of_mem _ ?_)) rfl
        have x4 := X.out.at_ (g := w.heap.size) (i := 4) (v := .int .i64 ct) (cs := [.int .i64 k, .int .i64 s, .int .i64 p, .int .i64 q, .int .i64 ct, .int .i64 3, .int .i64 vk, .int .i64 vn, .slice A n c, .slice B m d]) (by repeat (first | exact List.mem_cons_self | refine List.mem_cons_of_mem _ ?_)) rfl
        have x5 := X.out.at_ (g := w.heap.size) (i := 5) (v := .int .i64 3) (cs := [.int .i64 k, .int .i64 s, .int .i64 p, .int .i64 q, .int .i64 ct, .int .i64 3, .int .i64 vk, .int .i64 vn, .slice A n c, .slice B m d]) (by repeat (first | exact List.mem_cons_self | refine List.mem_cons_of_mem _ ?_)) rfl
        have x6 := X.out.at_ (g := w.heap.size) (i := 6) (v := .int .i64 vk) (cs := [.int .i64 k, .int .i64 s, .int .i64 p, .int .i64 q, .int .i64 ct, .int .i64 3, .int .i64 vk, .int .i64 vn, .slice A n c, .slice B m d]) (by repeat (first | exact List.mem_cons_self | refine List.mem_cons_of_mem _ ?_)) rfl
        have x7 := X.out.at_ (g := w.heap.size) (i := 7) (v := .int .i64 vn) (cs := [.int .i64 k, .int .i64 s, .int .i64 p, .int .i64 q, .int .i64 ct, .int .i64 3, .int .i64 vk, .int .i64 vn, .slice A n c, .slice B m d]) (by repeat (first | exact List.mem_cons_self | refine List.mem_cons_of_mem _ ?_)) rfl
        have x8 := X.out.at_ (g := w.heap.size) (i := 8) (v := .slice A n c) (cs := [.int .i64 k, .int .i64 s, .int .i64 p, .int .i64 q, .int .i64 ct, .int .i64 3, .int .i64 vk, .int .i64 vn, .slice A n c, .slice B m d]) (by repeat (first | exact List.mem_cons_self | refine List.mem_cons_of_mem _ ?_)) rfl
        have x9 := X.out.at_ (g := w.heap.size) (i := 9) (v := .slice B m d) (cs := [.int .i64 k, .int .i64 s, .int .i64 p, .int .i64 q, .int .i64 ct, .int .i64 3, .int .i64 vk, .int .i64 vn, .slice A n c, .slice B m d]) (by repeat (first | exact List.mem_cons_self | refine List.mem_cons_of_mem _ ?_)) rfl
        go_wp2_with fail
        refine (isSomew p q ct 0 _).mono ?_
        rintro e w1 ⟨rfl, hb⟩
        clear x0 x1 x2 x3 x4 x5 x6 x7 x8 x9
        rw [H1.out]
        replace X := Lib.hid (X.out.below hb)
        clear hb
        have x0 := X.out.at_ (g := w.heap.size) (i := 0) (v := .int .i64 k) (cs := [.int .i64 k, .int .i64 s, .int .i64 p, .int .i64 q, .int .i64 ct, .int .i64 3, .int .i64 vk, .int .i64 vn, .slice A n c, .slice B m d]) (by repeat (first | exact List.mem_cons_self | refine List.mem_cons_of_mem _ ?_)) rfl
        have x1 := X.out.at_ (g := w.heap.size) (i := 1) (v := .int .i64 s) (cs := [.int .i64 k, .int .i64 s, .int .i64 p, .int .i64 q, .int .i64 ct, .int .i64 3, .int .i64 vk, .int .i64 vn, .slice A n c, .slice B m d]) (by repeat (first | exact List.mem_cons_self | refine List.mem_cons_of_mem _ ?_)) rfl
        have x2 := X.out.at_ (g := w.heap.size) (i := 2) (v := .int .i64 p) (cs := [.int .i64 k, .int .i64 s, .int .i64 p, .int .i64 q, .int .i64 ct, .int .i64 3, .int .i64 vk, .int .i64 vn, .slice A n c, .slice B m d]) (by repeat (first | exact List.mem_cons_self | refine List.mem_cons_of_mem _ ?_)) rfl
        have x3 := X.out.at_ (g := w.heap.size) (i := 3) (v := .int .i64 q) (cs := [.int .i64 k, .int .i64 s, .int .i64 p, .int .i64 q, .int .i64 ct, .int .i64 3, .int .i64 vk, .int .i64 vn, .slice A n c, .slice B m d]) (by repeat (first | exact List.mem_cons_self | refine List.mem_cons_of_mem _ ?_)) rfl
        have x4 := X.out.at_ (g := w.heap.size) (i := 4) (v := .int .i64 ct) (cs := [.int .i64 k, .int .i64 s, .int .i64 p, .int .i64 q, .int .i64 ct, .int .i64 3, .int .i64 vk, .int .i64 vn, .slice A n c, .slice B m d]) (by repeat (first | exact List.mem_cons_self | refine List.mem_cons_of_mem _ ?_)) rfl
        have x5 := X.out.at_ (g := w.heap.size) (i := 5) (v := .int .i64 3) (cs := [.int .i64 k, .int .i64 s, .int .i64 p, .int .i64 q, .int .i64 ct, .int .i64 3, .int .i64 vk, .int .i64 vn, .slice A n c, .slice B m d]) (by repeat (first | exact List.mem_cons_self | refine List.mem_cons_of_mem _ ?_)) rfl
        have x6 := X.out.at_ (g := w.heap.size) (i := 6) (v := .int .i64 vk) (cs := [.int .i64 k, .int .i64 s, .int .i64 p, .int .i64 q, .int .i64 ct, .int .i64 3, .int .i64 vk, .int .i64 vn, .slice A n c, .slice B m d]) (by repeat (first | exact List.mem_cons_self | refine List.mem_cons_of_mem _ ?_)) rfl
        have x7 := X.out.at_ (g := w.heap.size) (i := 7) (v := .int .i64 vn) (cs := [.int .i64 k, .int .i64 s, .int .i64 p, .int .i64 q, .int .i64 ct, .int .i64 3, .int .i64 vk, .int .i64 vn, .slice A n c, .slice B m d]) (by repeat (first | exact List.mem_cons_self | refine List.mem_cons_of_mem _ ?_)) rfl
        have x8 := X.out.at_ (g := w.heap.size) (i := 8) (v := .slice A n c) (cs := [.int .i64 k, .int .i64 s, .int .i64 p, .int .i64 q, .int .i64 ct, .int .i64 3, .int .i64 vk, .int .i64 vn, .slice A n c, .slice B m d]) (by repeat (first | exact List.mem_cons_self | refine List.mem_cons_of_mem _ ?_)) rfl
        have x9 := X.out.at_ (g := w.heap.size) (i := 9) (v := .slice B m d) (cs := [.int .i64 k, .int .i64 s, .int .i64 p, .int .i64 q, .int .i64 ct, .int .i64 3, .int .i64 vk, .int .i64 vn, .slice A n c, .slice B m d]) (by repeat (first | exact List.mem_cons_self | refine List.mem_cons_of_mem _ ?_)) rfl
        go_wp2_with fail
        go_ret
        exact GivesBool.of HN.out X.out.1
  by_cases s4 : st = 4
  · subst s4
    rcases h0 : isVal ⟨vk, vn⟩ e with _ | _
    · have H0 := Lib.hid h0
      have HN : Hid (false = promV 4 ⟨vk, vn⟩ p q ct n m e) := Lib.hid (by simp only [promV]; simp only [Int.reduceEq, if_true, if_false]; simp only [H0.out, Bool.true_and, Bool.false_and, Bool.and_true, Bool.and_false])
      clear h0
      go_enter Try.func123, Try.ntmps123
      go_wp2_with fail
      refine (implIsVal ⟨vk, vn⟩ e _).mono ?_
      rintro e w0 ⟨rfl, hb⟩
      rw [H0.out]
      replace X := Lib.hid (X.out.below hb)
      clear hb
      have x0 := X.out.at_ (g := w.heap.size) (i := 0) (v := .int .i64 k) (cs := [.int .i64 k, .int .i64 s, .int .i64 p, .int .i64 q, .int .i64 ct, .int .i64 4, .int .i64 vk, .int .i64 vn, .slice A n c, .slice B m d]) (by repeat (first | exact List.mem_cons_self | refine List.mem_cons_of_mem _ ?_)) rfl
      have x1 := X.out.at_ (g := w.heap.size) (i := 1) (v := .int .i64 s) (cs := [.int .i64 k, .int .i64 s, .int .i64 p, .int .i64 q, .int .i64 ct, .int .i64 4, .int .i64 vk, .int .i64 vn, .slice A n c, .slice B m d]) (by repeat (first | exact List.mem_cons_self | refine List.mem_cons_of_mem _ ?_)) rfl
      have x2 := X.out.at_ (g := w.heap.size) (i := 2) (v := .int .i64 p) (cs := [.int .i64 k, .int .i64 s, .int .i64 p, .int .i64 q, .int .i64 ct, .int .i64 4, .int .i64 vk, .int .i64 vn, .slice A n c, .slice B m d]) (by repeat (first | exact List.mem_cons_self | refine List.mem_cons_of_mem _ ?_)) rfl
      have x3 := X.out.at_ (g := w.heap.size) (i := 3) (v := .int .i64 q) (cs := [.int .i64 k, .int .i64 s, .int .i64 p, .int .i64 q, .int .i64 ct, .int .i64 4, .int .i64 vk, .int .i64 vn, .slice A n c, .slice B m d]) (by repeat (first | exact List.mem_cons_self | refine List.mem_cons_of_mem _ ?_)) rfl
      have x4 := X.out.at_ (g := w.heap.size) (i := 4) (v := .int .i64 ct) (cs := [.int .i64 k, .int .i64 s, .int .i64 p, .int .i64 q, .int .i64 ct, .int .i64 4, .int .i64 vk, .int .i64 vn, .slice A n c, .slice B m d]) (by repeat (first | exact List.mem_cons_self | refine List.mem_cons_of_mem _ ?_)) rfl
      have x5 := X.out.at_ (g := w.heap.size) (i := 5) (v := .int .i64 4) (cs := [.int .i64 k, .int .i64 s, .int .i64 p, .int .i64 q, .int .i64 ct, .int .i64 4, .int .i64 vk, .int .i64 vn, .slice A n c, .slice B m d]) (by repeat (first | exact List.mem_cons_self | refine List.mem_cons_of_mem _ ?_)) rfl
      have x6 := X.out.at_ (g := w.heap.size) (i := 6) (v := .int .i64 vk) (cs := [.int .i64 k, .int .i64 s, .int .i64 p, .int .i64 q, .int .i64 ct, .int .i64 4, .int .i64 vk, .int .i64 vn, .slice A n c, .slice B m d]) (by repeat (first | exact List.mem_cons_self | refine List.mem_cons_of_mem _ ?_)) rfl
      have x7 := X.out.at_ (g := w.heap.size) (i := 7) (v := .int .i64 vn) (cs := [.int .i64 k, .int .i64 s, .int .i64 p, .int .i64 q, .int .i64 ct, .int .i64 4, .int .i64 vk, .int .i64 vn, .slice A n c, .slice B m d]) (by repeat (first | exact List.mem_cons_self | refine List.mem_cons_of_mem _ ?_)) rfl
      have x8 := X.out.at_ (g := w.heap.size) (i := 8) (v := .slice A n c) (cs := [.int .i64 k, .int .i64 s, .int .i64 p, .int .i64 q, .int .i64 ct, .int .i64 4, .int .i64 vk, .int .i64 vn, .slice A n c, .slice B m d]) (by repeat (first | exact List.mem_cons_self | refine List.mem_cons_of_mem _ ?_)) rfl
      have x9 := X.out.at_ (g := w.heap.size) (i := 9) (v := .slice B m d) (cs := [.int .i64 k, .int .i64 s, .int .i64 p, .int .i64 q, .int .i64 ct, .int .i64 4, .int .i64 vk, .int .i64 vn, .slice A n c, .slice B m d]) (by repeat (first | exact List.mem_cons_self | refine List.mem_cons_of_mem _ ?_)) rfl
      go_wp2_with fail
      go_ret
      exact GivesBool.of HN.out X.out.1
    · have H0 := Lib.hid h0
      clear h0
      rcases h1 : somew p q ct 0 with _ | _
      · have H1 := Lib.hid h1
        have HN : Hid (false = promV 4 ⟨vk, vn⟩ p q ct n m e) := Lib.hid (by simp only [promV]; simp only [Int.reduceEq, if_true, if_false]; simp only [H0.out, H1.out, Bool.true_and, Bool.false_and, Bool.and_true, Bool.and_false])
        clear h1
        go_enter Try.func123, Try.ntmps123
        go_wp2_with fail
        refine (implIsVal ⟨vk, vn⟩ e _).mono ?_
        rintro e w0 ⟨rfl, hb⟩
        rw [H0.out]
        replace X := Lib.hid (X.out.below hb)
        clear hb
        have x0 := X.out.at_ (g := w.heap.size) (i := 0) (v := .int .i64 k) (cs := [.int .i64 k, .int .i64 s, .int .i64 p, .int .i64 q, .int .i64 ct, .int .i64 4, .int .i64 vk, .int .i64 vn, .slice A n c, .slice B m d]) (by repeat (first | exact List.mem_cons_self | refine List.mem_cons_of_mem _ ?_)) rfl
        have x1 := X.out.at_ (g := w.heap.size) (i := 1) (v := .int .i64 s) (cs := [.int .i64 k, .int .i64 s, .int .i64 p, .int .i64 q, .int .i64 ct, .int .i64 4, .int .i64 vk, .int .i64 vn, .slice A n c, .slice B m d]) (by repeat (first | exact List.mem_cons_self | refine List.mem_cons_of_mem _ ?_)) rfl
        have x2 := X.out.at_ (g := w.heap.size) (i := 2) (v := .int .i64 p) (cs := [.int .i64 k, .int .i64 s, .int .i64 p, .int .i64 q, .int .i64 ct, .int .i64 4, .int .i64 vk, .int .i64 vn, .slice A n c, .slice B m d]) (by repeat (first | exact List.mem_cons_self | refine List.mem_cons_of_mem _ ?_)) rfl
        have x3 := X.out.at_ (g := w.heap.size) (i := 3) (v := .int .i64 q) (cs := [.int .i64 k, .int .i64 s, .int .i64 p, .int .i64 q, .int .i64 ct, .int .i64 4, .int .i64 vk, .int .i64 vn, .slice A n c, .slice B m d]) (by repeat (first | exact List.mem_cons_self | refine List.mem_cons_of_mem _ ?_)) rfl
        have x4 := X.out.at_ (g := w.heap.size) (i := 4) (v := .int .i64 ct) (cs := [.int .i64 k, .int .i64 s, .int .i64 p, .int .i64 q, .int .i64 ct, .int .i64 4, .int .i64 vk, .int .i64 vn, .slice A n c, .slice B m d]) (by repeat (first | exact List.mem_cons_self | refine List.mem_cons_of_mem _ ?_)) rfl
        have x5 := X.out.at_ (g := w.heap.size) (i := 5) (v := .int .i64 4) (cs := [.int .i64 k, .int .i64 s, .int .i64 p, .int .i64 q, .int .i64 ct, .int .i64 4, .int .i64 vk, .int .i64 vn, .slice A n c, .slice B m d]) (by repeat (first | exact List.mem_cons_self | refine List.mem_cons_of_mem _ ?_)) rfl
        have x6 := X.out.at_ (g := w.heap.size) (i := 6) (v := .int .i64 vk) (cs := [.int .i64 k, .int .i64 s, .int .i64 p, .int .i64 q, .int .i64 ct, .int .i64 4, .int .i64 vk, .int .i64 vn, .slice A n c, .slice B m d]) (by repeat (first | exact List.mem_cons_self | refine List.mem_cons_of_mem _ ?_)) rfl
        have x7 := X.out.at_ (g := w.heap.size) (i := 7) (v := .int .i64 vn) (cs := [.int .i64 k, .int .i64 s, .int .i64 p, .int .i64 q, .int .i64 ct, .int .i64 4, .int .i64 vk, .int .i64 vn, .slice A n c, .slice B m d]) (by repeat (first | exact List.mem_cons_self | refine List.mem_cons_of_mem _ ?_)) rfl
        have x8 := X.out.at_ (g := w.heap.size) (i := 8) (v := .slice A n c) (cs := [.int .i64 k, .int .i64 s, .int .i64 p, .int .i64 q, .int .i64 ct, .int .i64 4, .int .i64 vk, .int .i64 vn, .slice A n c, .slice B m d]) (by repeat (first | exact List.mem_cons_self | refine List.mem_cons_of_mem _ ?_)) rfl
        have x9 := X.out.at_ (g := w.heap.size) (i := 9) (v := .slice B m d) (cs := [.int .i64 k, .int .i64 s, .int .i64 p, .int .i64 q, .int .i64 ct, .int .i64 4, .int .i64 vk, .int .i64 vn, .slice A n c, .slice B m d]) (by repeat (first | exact List.mem_cons_self | refine List.mem_cons_of_mem _ ?_)) rfl
        go_wp2_with fail
        refine (isSomew p q ct 0 _).mono ?_
        rintro e w1 ⟨rfl, hb⟩
        clear x0 x1 x2 x3 x4 x5 x6 x7 x8 x9
        rw [H1.out]
        replace X := Lib.hid (X.out.below hb)
        clear hb
        have x0 := X.out.at_ (g := w.heap.size) (i := 0) (v := .int .i64 k) (cs := [.int .i64 k, .int .i64 s, .int .i64 p, .int .i64 q, .int .i64 ct, .int .i64 4, .int .i64 vk, .int .i64 vn, .slice A n c, .slice B m d]) (by repeat (first | exact List.mem_cons_self | refine List.mem_cons_of_mem _ ?_)) rfl
        have x1 := X.out.at_ (g := w.heap.size) (i := 1) (v := .int .i64 s) (cs := [.int .i64 k, .int .i64 s, .int .i64 p, .int .i64 q, .int .i64 ct, .int .i64 4, .int .i64 vk, .int .i64 vn, .slice A n c, .slice B m d]) (by repeat (first | exact List.mem_cons_self | refine List.mem_cons_of_mem _ ?_)) rfl
        have x2 := X.out.at_ (g := w.heap.size) (i := 2) (v := .int .i64 p) (cs := [.int .i64 k, .int .i64 s, .int .i64 p, .int .i64 q, .int .i64 ct, .int .i64 4, .int .i64 vk, .int .i64 vn, .slice A n c, .slice B m d]) (by repeat (first | exact List.mem_cons_self | refine List.mem_cons_of_mem _ ?_)) rfl
        have x3 := X.out.at_ (g := w.heap.size) (i := 3) (v := .int .i64 q) (cs := [.int .i64 k, .int .i64 s, .int .i64 p, .int .i64 q, .int .i64 ct, .int .i64 4, .int .i64 vk, .int .i64 vn, .slice A n c, .slice B m d]) (by repeat (first | exact List.mem_cons_self | refine List.mem_cons_of_mem _ ?_)) rfl
        have x4 := X.out.at_ (g := w.heap.size) (i := 4) (v := .int .i64 ct) (cs := [.int .i64 k, .int .i64 s, .int .i64 p, .int .i64 q, .int .i64 ct, .int .i64 4, .int .i64 vk, .int .i64 vn, .slice A n c, .slice B m d]) (by repeat (first | exact List.mem_cons_self | refine List.mem_cons_of_mem _ ?_)) rfl
        have x5 := X.out.at_ (g := w.heap.size) (i := 5) (v := .int .i64 4) (cs := [.int .i64 k, .int .i64 s, .int .i64 p, .int .i64 q, .int .i64 ct, .int .i64 4, .int .i64 vk, .int .i64 vn, .slice A n c, .slice B m d]) (by repeat (first | exact List.mem_cons_self | refine List.mem_cons_of_mem _ ?_)) rfl
        have x6 := X.out.at_ (g := w.heap.size) (i := 6) (v := .int .i64 vk) (cs := [.int .i64 k, .int .i64 s, .int .i64 p, .int .i64 q, .int .i64 ct, .int .i64 4, .int .i64 vk, .int .i64 vn, .slice A n c, .slice B m d]) (by repeat (first | exact List.mem_cons_self | refine List.mem_cons_of_mem _ ?_)) rfl
        have x7 := X.out.at_ (g := w.heap.size) (i := 7) (v := .int .i64 vn) (cs := [.int .i64 k, .int .i64 s, .int .i64 p, .int .i64 q, .int .i64 ct, .int .i64 4, .int .i64 vk, .int .i64 vn, .slice A n c, .slice B m d]) (by repeat (first | exact List.mem_cons_self | refine List.mem_cons_of_mem _ ?_)) rfl
        have x8 := X.out.at_ (g := w.heap.size) (i := 8) (v := .slice A n c) (cs := [.int .i64 k, .int .i64 s, .int .i64 p, .int .i64 q, .int .i64 ct, .int .i64 4, .int .i64 vk, .int .i64 vn, .slice A n c, .slice B m d]) (by repeat (first | exact List.mem_cons_self | refine List.mem_cons_of_mem _ ?_)) rfl
        have x9 := X.out.at_ (g := w.heap.size) (i := 9) (v := .slice B m d) (cs := [.int .i64 k, .int .i64 s, .int .i64 p, .int .i64 q, .int .i64 ct, .int .i64 4, .int .i64 vk, .int .i64 vn, .slice A n c, .slice B m d]) (by repeat (first | exact List.mem_cons_self | refine List.mem_cons_of_mem _ ?_)) rfl
        go_wp2_with fail
        go_ret
        exact GivesBool.of HN.out X.out.1
      · have H1 := Lib.hid h1
        clear h1
        obtain ⟨b2, h2⟩ : ∃ b2, decide ((n : Int) ≤ 40) = b2 := ⟨_, rfl⟩
        have H2 := Lib.hid h2
        have HN : Hid (decide ((n : Int) ≤ 40) = promV 4 ⟨vk, vn⟩ p q ct n m e) := Lib.hid (by simp only [promV]; simp only [Int.reduceEq, if_true, if_false]; simp only [H0.out, H1.out, Bool.true_and, Bool.true_and, Bool.and_true])
        clear h2
        go_enter Try.func123, Try.ntmps123
        go_wp2_with fail
        refine (implIsVal ⟨vk, vn⟩ e _).mono ?_
        rintro e w0 ⟨rfl, hb⟩
        rw [H0.out]
        replace X := Lib.hid (X.out.below hb)
        clear hb
        have x0 := X.out.at_ (g := w.heap.size) (i := 0) (v := .int .i64 k) (cs := [.int .i64 k, .int .i64 s, .int .i64 p, .int .i64 q, .int .i64 ct, .int .i64 4, .int .i64 vk, .int .i64 vn, .slice A n c, .slice B m d]) (by repeat (first | exact List.mem_cons_self | refine List.mem_cons_of_mem _ ?_)) rfl
        have x1 := X.out.at_ (g := w.heap.size) (i := 1) (v := .int .i64 s) (cs := [.int .i64 k, .int .i64 s, .int .i64 p, .int .i64 q, .int .i64 ct, .int .i64 4, .int .i64 vk, .int .i64 vn, .slice A n c, .slice B m d]) (by repeat (first | exact List.mem_cons_self | refine List.mem_cons_of_mem _ ?_)) rfl
        have x2 := X.out.at_ (g := w.heap.size) (i := 2) (v := .int .i64 p) (cs := [.int .i64 k, .int .i64 s, .int .i64 p, .int .i64 q, .int .i64 ct, .int .i64 4, .int .i64 vk, .int .i64 vn, .slice A n c, .slice B m d]) (by repeat (first | exact List.mem_cons_self | refine List.mem_cons_of_mem _ ?_)) rfl
        have x3 := X.out.at_ (g := w.heap.size) (i := 3) (v := .int .i64 q) (cs := [.int .i64 k, .int .i64 s, .int .i64 p, .int .i64 q, .int .i64 ct, .int .i64 4, .int .i64 vk, .int .i64 vn, .slice A n c, .slice B m d]) (by repeat (first | exact List.mem_cons_self | refine List.mem_cons_of_mem _ ?_)) rfl
        have x4 := X.out.at_ (g := w.heap.size) (i := 4) (v := .int .i64 ct) (cs := [.int .i64 k, .int .i64 s, .int .i64 p, .int .i64 q, .int .i64 ct, .int .i64 4, .int .i64 vk, .int .i64 vn, .slice A n c, .slice B m d]) (by repeat (first | exact List.mem_cons_self | refine List.mem_cons_of_mem _ ?_)) rfl
        have x5 := X.out.at_ (g := w.heap.size) (i := 5) (v := .int .i64 4) (cs := [.int .i64 k, .int .i64 s, .int .i64 p, .int .i64 q, .int .i64 ct, .int .i64 4, .int .i64 vk, .int .i64 vn, .slice A n c, .slice B m d]) (by repeat (first | exact List.mem_cons_self | refine List.mem_cons_of_mem _ ?_)) rfl
        have x6 := X.out.at_ (g := w.heap.size) (i := 6) (v := .int .i64 vk) (cs := [.int .i64 k, .int .i64 s, .int .i64 p, .int .i64 q, .int .i64 ct, .int .i64 4, .int .i64 vk, .int .i64 vn, .slice A n c, .slice B m d]) (by repeat (first | exact List.mem_cons_self | refine List.mem_cons_of_mem _ ?_)) rfl
        have x7 := X.out.at_ (g := w.heap.size) (i := 7) (v := .int .i64 vn) (cs := [.int .i64 k, .int .i64 s, .int .i64 p, .int .i64 q, .int .i64 ct, .int .i64 4, .int .i64 vk, .int .i64 vn, .slice A n c, .slice B m d]) (by repeat (first | exact List.mem_cons_self | refine List.mem_cons_of_mem _ ?_)) rfl
        have x8 := X.out.at_ (g := w.heap.size) (i := 8) (v := .slice A n c) (cs := [.int .i64 k, .int .i64 s, .int .i64 p, .int .i64 q, .int .i64 ct, .int .i64 4, .int .i64 vk, .int .i64 vn, .slice A n c, .slice B m d]) (by repeat (first | exact List.mem_cons_self | refine List.mem_cons_of_mem _ ?_)) rfl
        have x9 := X.out.at_ (g := w.heap.size) (i := 9) (v := .slice B m d) (cs := [.int .i64 k, .int .i64 s, .int .i64 p, .int .i64 q, .int .i64 ct, .int .i64 4, .int .i64 vk, .int .i64 vn, .slice A n c, .slice B m d]) (by repeat (first | exact List.mem_cons_self | refine List.mem_cons_of_mem _ ?_)) rfl
        go_wp2_with fail
        refine (isSomew p q ct 0 _).mono ?_
        rintro e w1 ⟨rfl, hb⟩
        clear x0 x1 x2 x3 x4 x5 x6 x7 x8 x9
        rw [H1.out]
        replace X := Lib.hid (X.out.below hb)
        clear hb
        have x0 := X.out.at_ (g := w.heap.size) (i := 0) (v := .int .i64 k) (cs := [.int .i64 k, .int .i64 s, .int .i64 p, .int .i64 q, .int .i64 ct, .int .i64 4, .int .i64 vk, .int .i64 vn, .slice A n c, .slice B m d]) (by repeat (first | exact List.mem_cons_self | refine List.mem_cons_of_mem _ ?_)) rfl
        have x1 := X.out.at_ (g := w.heap.size) (i := 1) (v := .int .i64 s) (cs := [.int .i64 k, .int .i64 s, .int .i64 p, .int .i64 q, .int .i64 ct, .int .i64 4, .int .i64 vk, .int .i64 vn, .slice A n c, .slice B m d]) (by repeat (first | exact List.mem_cons_self | refine List.mem_cons_of_mem _ ?_)) rfl
        have x2 := X.out.at_ (g := w.heap.size) (i := 2) (v := .int .i64 p) (cs := [.int .i64 k, .int .i64 s, .int .i64 p, .int .i64 q, .int .i64 ct, .int .i64 4, .int .i64 vk, .int .i64 vn, .slice A n c, .slice B m d]) (by repeat (first | exact List.mem_cons_self | refine List.mem_cons_of_mem _ ?_)) rfl
        have x3 := X.out.at_ (g := w.heap.size) (i := 3) (v := .int .i64 q) (cs := [.int .i64 k, .int .i64 s, .int .i64 p, .int .i64 q, .int .i64 ct, .int .i64 4, .int .i64 vk, .int .i64 vn, .slice A n c, .slice B m d]) (by repeat (first | exact List.mem_cons_self | refine List.mem_cons_of_mem _ ?_)) rfl
        have x4 := X.out.at_ (g := w.heap.size) (i := 4) (v := .int .i64 ct) (cs := [.int .i64 k, .int .i64 s, .int .i64 p, .int .i64 q, .int .i64 ct, .int .i64 4, .int .i64 vk, .int .i64 vn, .slice A n c, .slice B m d]) (by repeat (first | exact List.mem_cons_self | refine List.mem_cons_of_mem _ ?_)) rfl
        have x5 := X.out.at_ (g := w.heap.size) (i := 5) (v := .int .i64 4) (cs := [.int .i64 k, .int .i64 s, .int .i64 p, .int .i64 q, .int .i64 ct, .int .i64 4, .int .i64 vk, .int .i64 vn, .slice A n c, .slice B m d]) (by repeat (first | exact List.mem_cons_self | refine List.mem_cons_of_mem _ ?_)) rfl
        have x6 := X.out.at_ (g := w.heap.size) (i := 6) (v := .int .i64 vk) (cs := [.int .i64 k, .int .i64 s, .int .i64 p, .int .i64 q, .int .i64 ct, .int .i64 4, .int .i64 vk, .int .i64 vn, .slice A n c, .slice B m d]) (by repeat (first | exact List.mem_cons_self | refine List.mem_cons_of_mem _ ?_)) rfl
        have x7 := X.out.at_ (g := w.heap.size) (i := 7) (v := .int .i64 vn) (cs := [.int .i64 k, .int .i64 s, .int .i64 p, .int .i64 q, .int .i64 ct, .int .i64 4, .int .i64 vk, .int .i64 vn, .slice A n c, .slice B m d]) (by repeat (first | exact List.mem_cons_self | refine List.mem_cons_of_mem _ ?_)) rfl
        have x8 := X.out.at_ (g := w.heap.size) (i := 8) (v := .slice A n c) (cs := [.int .i64 k, .int .i64 s, .int .i64 p, .int .i64 q, .int .i64 ct, .int .i64 4, .int .i64 vk, .int .i64 vn, .slice A n c, .slice B m d]) (by repeat (first | exact List.mem_cons_self | refine List.mem_cons_of_mem _ ?_)) rfl
        have x9 := X.out.at_ (g := w.heap.size) (i := 9) (v := .slice B m d) (cs := [.int .i64 k, .int .i64 s, .int .i64 p, .int .i64 q, .int .i64 ct, .int .i64 4, .int .i64 vk, .int .i64 vn, .slice A n c, .slice B m d]) (by repeat (first | exact List.mem_cons_self | refine List.mem_cons_of_mem _ ?_)) rfl
        go_wp2_with fail
        go_ret
        exact GivesBool.of HN.out X.out.1
  have HN : Hid (false = promV st ⟨vk, vn⟩ p q ct n m e) := Lib.hid (by simp only [promV, if_neg s1, if_neg s2, if_neg s3, if_neg s4])
  have t1 : (st == 1) = false := by simpa using s1
  have t2 : (st == 2) = false := by simpa using s2
  have t3 : (st == 3) = false := by simpa using s3
  have t4 : (st == 4) = false := by simpa using s4
  go_enter Try.func123, Try.ntmps123
  go_wp2_with fail
  go_ret
  exact GivesBool.of HN.out X.out.1
end Go.Proofs.Ytfgijebgnkikpaa
