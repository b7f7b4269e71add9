/- RegsOf, both sides. -/
import Derived.Test.YtgibhbplgiejpaaGreatIsI
import Derived.Test.YtgibhbplgiejpaaGreatAppD
namespace Go.Proofs.YtgibhbplgiejpaaGreat
open Go.RowKit
set_option linter.unusedVariables false
theorem own_lit (w : World) (zs : List Int) (C : Array Value) (n : Nat) (hC : C = (zs.map (Value.int .i64)).toArray) (hn : zs.length = n) (hm : n ≤ 9223372036854775807) : Own .i64 3 w.heap.size (w.alloc (.cells C 3)).heap.size (w.alloc (.cells C 3)) (some ⟨w.heap.size, 0, none⟩) n n zs := by
  subst hC hn
  refine ⟨rfl, ⟨by simp, Or.inr ⟨w.heap.size, zs.length, (zs.map (Value.int .i64)).toArray, rfl, Nat.le_refl _, ?_, Nat.le_refl _, by unfold maxLen; omega, by simp, List.take_of_length_le (by simp)⟩⟩, Nat.le_refl _, fun a e => ?_⟩
  · show (w.heap.push _)[w.heap.size]? = _
    simp
  · obtain rfl := Option.some.inj e
    simp
theorem Rz.oneAt {k : IntKind} {w : World} {z : Int} {E : TypeId} {g : Nat} (h : g = w.heap.size) : Rz k (w.alloc (.cells #[.int k z] E)) (some ⟨g, 0, none⟩) 1 [z] := by
  subst h
  exact Rz.one _ _ _ _
/-- What is collected, and the instruction's box before it. -/
def Col (W : World) (op a b c d : Int) (nm : ByteArray) (zs : List Int) (w : World) (A : Option Addr) (n cap : Nat) : Prop := Own .i64 3 (W.heap.size + 1) w.heap.size w A n cap zs ∧ Boxed W op a b c d nm w
section
variable {W w : World} {op a b c d : Int} {nm : ByteArray} {zs : List Int} {A : Option Addr} {n cap : Nat}
theorem Col.start (W : World) (op a b c d : Int) (nm : ByteArray) : Col W op a b c d nm [] ((W.alloc (.cells #[.int .i64 op, .int .i64 a, .int .i64 b, .int .i64 c, .int .i64 d, .string nm] 32)).alloc (.cells #[] 3)) (some ⟨W.heap.size + 1, 0, none⟩) 0 0 := by
  have h1 := own_lit (W.alloc (.cells #[.int .i64 op, .int .i64 a, .int .i64 b, .int .i64 c, .int .i64 d, .string nm] 32)) [] #[] 0 rfl rfl (by omega)
  have e : (W.alloc (.cells #[.int .i64 op, .int .i64 a, .int .i64 b, .int .i64 c, .int .i64 d, .string nm] 32)).heap.size = W.heap.size + 1 := by simp
  rw [e] at h1
  exact ⟨h1, (Boxed.mk_ W op a b c d nm _).below ((Below.refl _ _).alloc (Nat.le_refl _) _)⟩
theorem Boxed.step {w' : World} {lo hi : Nat} (h : Boxed W op a b c d nm w) (hS : Step lo hi w w') (hl : W.heap.size < lo) : Boxed W op a b c d nm w' := by
  refine ⟨⟨Nat.lt_of_lt_of_le h.1.1 hS.size, fun i v hv => ?_⟩, hS.below h.2 (by omega) h.2.size⟩
  exact (World.cell?_of_block (w := w) (a := ⟨W.heap.size, i, none⟩) (hS.block W.heap.size h.1.1 (Or.inl hl))).trans (h.1.2 i v hv)
theorem Col.next {z : Int} {A3 : Option Addr} {c3 : Nat} {w3 : World} (h : Col W op a b c d nm zs w A n cap) (o : Obj) (hO : Own .i64 3 (W.heap.size + 1) w3.heap.size w3 A3 (n + 1) c3 (zs ++ [z])) (hS : Step (W.heap.size + 1) w.heap.size (w.alloc o) w3) :
    Col W op a b c d nm (zs ++ [z]) w3 A3 (n + 1) c3 :=
  ⟨hO, (h.2.below ((Below.refl _ _).alloc (Nat.le_refl _) o)).step hS (by omega)⟩
theorem Col.ret {zs' : List Int} (h : Col W op a b c d nm zs w A n cap) (e : zs = zs') : Fresh .i64 3 zs' W (.returned (.slice A n cap)) w := by
  subst e
  exact Fresh.ret (h.1.less (by omega)) h.2.2
theorem fresh_lit {zs : List Int} {C : Array Value} {x : Obj} {n : Nat} (hC : C = (zs.map (Value.int .i64)).toArray) (hn : zs.length = n) (hm : n ≤ 9223372036854775807) : Fresh .i64 3 zs W (.returned (.slice (some ⟨W.heap.size + 1, 0, none⟩) n n)) ((W.alloc x).alloc (.cells C 3)) := by
  have h1 := own_lit (W.alloc x) zs C n hC hn hm
  have e : (W.alloc x).heap.size = W.heap.size + 1 := by simp
  rw [e] at h1
  exact Fresh.ret (h1.less (by omega)) (((Below.refl _ _).alloc (Nat.le_refl _) _).alloc (by simp) _)
end
theorem rNone (op a b c d : Int) (nm : ByteArray) (w : World) : Calls Tryz.prog 60 #[.agg #[.int .i64 op, .int .i64 a, .int .i64 b, .int .i64 c, .int .i64 d, .string nm]] w (Fresh .i64 3 [] w) := by
  go_enter Tryz.func60, Tryz.ntmps60
  go_wp2
  go_ret
  exact fresh_lit rfl rfl (by omega)
theorem rA (op a b c d : Int) (nm : ByteArray) (w : World) : Calls Tryz.prog 74 #[.agg #[.int .i64 op, .int .i64 a, .int .i64 b, .int .i64 c, .int .i64 d, .string nm]] w (Fresh .i64 3 [a] w) := by
  go_enter Tryz.func74, Tryz.ntmps74
  go_wp2
  go_ret
  exact fresh_lit rfl rfl (by omega)
theorem rB (op a b c d : Int) (nm : ByteArray) (w : World) : Calls Tryz.prog 72 #[.agg #[.int .i64 op, .int .i64 a, .int .i64 b, .int .i64 c, .int .i64 d, .string nm]] w (Fresh .i64 3 [b] w) := by
  go_enter Tryz.func72, Tryz.ntmps72
  go_wp2
  go_ret
  exact fresh_lit rfl rfl (by omega)
theorem rBC (op a b c d : Int) (nm : ByteArray) (w : World) : Calls Tryz.prog 66 #[.agg #[.int .i64 op, .int .i64 a, .int .i64 b, .int .i64 c, .int .i64 d, .string nm]] w (Fresh .i64 3 [b, c] w) := by
  go_enter Tryz.func66, Tryz.ntmps66
  go_wp2
  go_ret
  exact fresh_lit rfl rfl (by omega)
theorem passed_nn : [] = passed (-1) (-1) := rfl
theorem passed_n {d : Int} (h : ¬ d = -1) : [d] = passed (-1) d := by simp [passed, h]
theorem passed_c {c : Int} (h : ¬ c = -1) : [c] = passed c (-1) := by simp [passed, h]
theorem passed_cd {c d : Int} (h : ¬ c = -1) (h' : ¬ d = -1) : [c, d] = passed c d := by simp [passed, h, h']
theorem fresh_lit2 {W : World} {zs : List Int} {C : Array Value} {x y : Obj} {n : Nat} (hC : C = (zs.map (Value.int .i64)).toArray) (hn : zs.length = n) (hm : n ≤ 9223372036854775807) :
    Fresh .i64 3 zs W (.returned (.slice (some ⟨W.heap.size + 1 + 1, 0, none⟩) n n)) (((W.alloc x).alloc y).alloc (.cells C 3)) := by
  have h1 := own_lit ((W.alloc x).alloc y) zs C n hC hn hm
  have e : ((W.alloc x).alloc y).heap.size = W.heap.size + 1 + 1 := by simp
  rw [e] at h1
  exact Fresh.ret (h1.less (by omega)) ((((Below.refl _ _).alloc (Nat.le_refl _) _).alloc (by simp) _).alloc (by simp; omega) _)
set_option maxHeartbeats 4000000 in
theorem sRegs6 (a b c d : Int) (nm : ByteArray) (w : World) : Calls Tryz.prog 31 #[.agg #[.int .i64 6, .int .i64 a, .int .i64 b, .int .i64 c, .int .i64 d, .string nm]] w (Fresh .i64 3 (b :: passed c d) w) := by
  obtain ⟨i0, hi, hz0, hz1, hz2⟩ := info_parts infoI
  by_cases hc : c = -1
  · subst hc
    by_cases hd : d = -1
    · subst hd
      have HP := Lib.hid (passed_nn)
      have C := Lib.hid (Col.start w 6 a b (-1) (-1) nm)
      go_enter Tryz.func31, Tryz.ntmps31
      go_wp2_with (at_builtin; refine wpList_append_rz _ rfl _ _ 29 rfl .i64 3 i0 0 8 Tryz.underlying29 hi hz0 hz1 hz2 (w.heap.size + 1) _ _ _ _ _ rfl (C.out.1.alloc _) _ 1 1 [_] rfl (by first | exact Rz.one _ _ _ _ | exact Rz.oneAt (by simp)) ?h63 ?hby ?hlo ?_; (case h63 => (unfold maxLen; omega)); (case hby => omega); (case hlo => (have h := C.out.2.2.size; first | (simp; done) | (simp; omega))); intro A1 c1 w1 hO hS; replace C := Lib.hid (C.out.next _ hO hS); obtain ⟨k0, k1, k2, k3, k4, k5⟩ := C.out.2.six; clear hO hS)
      go_ret
      exact C.out.ret (by rw [← HP.out]; rfl)
    · have hd' : (d == -1) = false := by simpa using hd
      have hd2 : (d != -1) = true := by simpa using hd
      have HP := Lib.hid (passed_n hd)
      clear hd
      have C := Lib.hid (Col.start w 6 a b (-1) d nm)
      go_enter Tryz.func31, Tryz.ntmps31
      go_wp2_with (at_builtin; refine wpList_append_rz _ rfl _ _ 29 rfl .i64 3 i0 0 8 Tryz.underlying29 hi hz0 hz1 hz2 (w.heap.size + 1) _ _ _ _ _ rfl (C.out.1.alloc _) _ 1 1 [_] rfl (by first | exact Rz.one _ _ _ _ | exact Rz.oneAt (by simp)) ?h63 ?hby ?hlo ?_; (case h63 => (unfold maxLen; omega)); (case hby => omega); (case hlo => (have h := C.out.2.2.size; first | (simp; done) | (simp; omega))); intro A1 c1 w1 hO hS; replace C := Lib.hid (C.out.next _ hO hS); obtain ⟨k0, k1, k2, k3, k4, k5⟩ := C.out.2.six; clear hO hS)
      go_ret
      exact C.out.ret (by rw [← HP.out]; rfl)
  · have hc' : (c == -1) = false := by simpa using hc
    have hc2 : (c != -1) = true := by simpa using hc
    by_cases hd : d = -1
    · subst hd
      have HP := Lib.hid (passed_c hc)
      clear hc
      have C := Lib.hid (Col.start w 6 a b c (-1) nm)
      go_enter Tryz.func31, Tryz.ntmps31
      go_wp2_with (at_builtin; refine wpList_append_rz _ rfl _ _ 29 rfl .i64 3 i0 0 8 Tryz.underlying29 hi hz0 hz1 hz2 (w.heap.size + 1) _ _ _ _ _ rfl (C.out.1.alloc _) _ 1 1 [_] rfl (by first | exact Rz.one _ _ _ _ | exact Rz.oneAt (by simp)) ?h63 ?hby ?hlo ?_; (case h63 => (unfold maxLen; omega)); (case hby => omega); (case hlo => (have h := C.out.2.2.size; first | (simp; done) | (simp; omega))); intro A1 c1 w1 hO hS; replace C := Lib.hid (C.out.next _ hO hS); obtain ⟨k0, k1, k2, k3, k4, k5⟩ := C.out.2.six; clear hO hS)
      go_ret
      exact C.out.ret (by rw [← HP.out]; rfl)
    · have hd' : (d == -1) = false := by simpa using hd
      have hd2 : (d != -1) = true := by simpa using hd
      have HP := Lib.hid (passed_cd hc hd)
      clear hd
      clear hc
      have C := Lib.hid (Col.start w 6 a b c d nm)
      go_enter Tryz.func31, Tryz.ntmps31
      go_wp2_with (at_builtin; refine wpList_append_rz _ rfl _ _ 29 rfl .i64 3 i0 0 8 Tryz.underlying29 hi hz0 hz1 hz2 (w.heap.size + 1) _ _ _ _ _ rfl (C.out.1.alloc _) _ 1 1 [_] rfl (by first | exact Rz.one _ _ _ _ | exact Rz.oneAt (by simp)) ?h63 ?hby ?hlo ?_; (case h63 => (unfold maxLen; omega)); (case hby => omega); (case hlo => (have h := C.out.2.2.size; first | (simp; done) | (simp; omega))); intro A1 c1 w1 hO hS; replace C := Lib.hid (C.out.next _ hO hS); obtain ⟨k0, k1, k2, k3, k4, k5⟩ := C.out.2.six; clear hO hS)
      go_ret
      exact C.out.ret (by rw [← HP.out]; rfl)
set_option maxHeartbeats 4000000 in
theorem sRegs7 (a b c d : Int) (nm : ByteArray) (w : World) : Calls Tryz.prog 31 #[.agg #[.int .i64 7, .int .i64 a, .int .i64 b, .int .i64 c, .int .i64 d, .string nm]] w (Fresh .i64 3 (passed c d) w) := by
  obtain ⟨i0, hi, hz0, hz1, hz2⟩ := info_parts infoI
  by_cases hc : c = -1
  · subst hc
    by_cases hd : d = -1
    · subst hd
      have HP := Lib.hid (passed_nn)
      have C := Lib.hid (Col.start w 7 a b (-1) (-1) nm)
      go_enter Tryz.func31, Tryz.ntmps31
      go_wp2_with fail
      go_ret
      exact C.out.ret HP.out
    · have hd' : (d == -1) = false := by simpa using hd
      have hd2 : (d != -1) = true := by simpa using hd
      have HP := Lib.hid (passed_n hd)
      clear hd
      have C := Lib.hid (Col.start w 7 a b (-1) d nm)
      go_enter Tryz.func31, Tryz.ntmps31
      go_wp2_with (at_builtin; refine wpList_append_rz _ rfl _ _ 29 rfl .i64 3 i0 0 8 Tryz.underlying29 hi hz0 hz1 hz2 (w.heap.size + 1) _ _ _ _ _ rfl (C.out.1.alloc _) _ 1 1 [_] rfl (by first | exact Rz.one _ _ _ _ | exact Rz.oneAt (by simp)) ?h63 ?hby ?hlo ?_; (case h63 => (unfold maxLen; omega)); (case hby => omega); (case hlo => (have h := C.out.2.2.size; first | (simp; done) | (simp; omega))); intro A1 c1 w1 hO hS; replace C := Lib.hid (C.out.next _ hO hS); obtain ⟨k0, k1, k2, k3, k4, k5⟩ := C.out.2.six; clear hO hS)
      go_ret
      exact C.out.ret (by rw [← HP.out]; rfl)
  · have hc' : (c == -1) = false := by simpa using hc
    have hc2 : (c != -1) = true := by simpa using hc
    by_cases hd : d = -1
    · subst hd
      have HP := Lib.hid (passed_c hc)
      clear hc
      have C := Lib.hid (Col.start w 7 a b c (-1) nm)
      go_enter Tryz.func31, Tryz.ntmps31
      go_wp2_with (at_builtin; refine wpList_append_rz _ rfl _ _ 29 rfl .i64 3 i0 0 8 Tryz.underlying29 hi hz0 hz1 hz2 (w.heap.size + 1) _ _ _ _ _ rfl (C.out.1.alloc _) _ 1 1 [_] rfl (by first | exact Rz.one _ _ _ _ | exact Rz.oneAt (by simp)) ?h63 ?hby ?hlo ?_; (case h63 => (unfold maxLen; omega)); (case hby => omega); (case hlo => (have h := C.out.2.2.size; first | (simp; done) | (simp; omega))); intro A1 c1 w1 hO hS; replace C := Lib.hid (C.out.next _ hO hS); obtain ⟨k0, k1, k2, k3, k4, k5⟩ := C.out.2.six; clear hO hS)
      go_ret
      exact C.out.ret (by rw [← HP.out]; rfl)
    · have hd' : (d == -1) = false := by simpa using hd
      have hd2 : (d != -1) = true := by simpa using hd
      have HP := Lib.hid (passed_cd hc hd)
      clear hd
      clear hc
      have C := Lib.hid (Col.start w 7 a b c d nm)
      go_enter Tryz.func31, Tryz.ntmps31
      go_wp2_with (at_builtin; refine wpList_append_rz _ rfl _ _ 29 rfl .i64 3 i0 0 8 Tryz.underlying29 hi hz0 hz1 hz2 (w.heap.size + 1) _ _ _ _ _ rfl (C.out.1.alloc _) _ 1 1 [_] rfl (by first | exact Rz.one _ _ _ _ | exact Rz.oneAt (by simp)) ?h63 ?hby ?hlo ?_; (case h63 => (unfold maxLen; omega)); (case hby => omega); (case hlo => (have h := C.out.2.2.size; first | (simp; done) | (simp; omega))); intro A1 c1 w1 hO hS; replace C := Lib.hid (C.out.next _ hO hS); obtain ⟨k0, k1, k2, k3, k4, k5⟩ := C.out.2.six; clear hO hS)
      go_ret
      exact C.out.ret (by rw [← HP.out]; rfl)
set_option maxHeartbeats 1000000 in
theorem sRegs5 (a b c d : Int) (nm : ByteArray) (w : World) : Calls Tryz.prog 31 #[.agg #[.int .i64 5, .int .i64 a, .int .i64 b, .int .i64 c, .int .i64 d, .string nm]] w (Fresh .i64 3 [b, c] w) := by
  go_enter Tryz.func31, Tryz.ntmps31
  go_wp2
  go_ret
  exact fresh_lit2 rfl rfl (by omega)
set_option maxHeartbeats 1000000 in
theorem sRegs8 (a b c d : Int) (nm : ByteArray) (w : World) : Calls Tryz.prog 31 #[.agg #[.int .i64 8, .int .i64 a, .int .i64 b, .int .i64 c, .int .i64 d, .string nm]] w (Fresh .i64 3 [b] w) := by
  go_enter Tryz.func31, Tryz.ntmps31
  go_wp2
  go_ret
  exact fresh_lit2 rfl rfl (by omega)
set_option maxHeartbeats 1000000 in
theorem sRegs9 (a b c d : Int) (nm : ByteArray) (w : World) : Calls Tryz.prog 31 #[.agg #[.int .i64 9, .int .i64 a, .int .i64 b, .int .i64 c, .int .i64 d, .string nm]] w (Fresh .i64 3 [a] w) := by
  go_enter Tryz.func31, Tryz.ntmps31
  go_wp2
  go_ret
  exact fresh_lit2 rfl rfl (by omega)
set_option maxHeartbeats 1000000 in
theorem sRegs10 (a b c d : Int) (nm : ByteArray) (w : World) : Calls Tryz.prog 31 #[.agg #[.int .i64 10, .int .i64 a, .int .i64 b, .int .i64 c, .int .i64 d, .string nm]] w (Fresh .i64 3 [a] w) := by
  go_enter Tryz.func31, Tryz.ntmps31
  go_wp2
  go_ret
  exact fresh_lit2 rfl rfl (by omega)
set_option maxHeartbeats 1000000 in
theorem sRegs0 (op a b c d : Int) (nm : ByteArray) (w : World) (h : ¬ (1 ≤ op ∧ op ≤ 10)) : Calls Tryz.prog 31 #[.agg #[.int .i64 op, .int .i64 a, .int .i64 b, .int .i64 c, .int .i64 d, .string nm]] w (Fresh .i64 3 [] w) := by
  have n1 : (op == 1) = false := by simp; omega
  have n2 : (op == 2) = false := by simp; omega
  have n3 : (op == 3) = false := by simp; omega
  have n4 : (op == 4) = false := by simp; omega
  have n5 : (op == 5) = false := by simp; omega
  have n6 : (op == 6) = false := by simp; omega
  have n7 : (op == 7) = false := by simp; omega
  have n8 : (op == 8) = false := by simp; omega
  have n9 : (op == 9) = false := by simp; omega
  have n10 : (op == 10) = false := by simp; omega
  clear h
  go_enter Tryz.func31, Tryz.ntmps31
  go_wp2
  go_ret
  exact fresh_lit rfl rfl (by omega)
set_option maxHeartbeats 1000000 in
theorem sRegs1 (a b c d : Int) (nm : ByteArray) (w : World) : Calls Tryz.prog 31 #[.agg #[.int .i64 1, .int .i64 a, .int .i64 b, .int .i64 c, .int .i64 d, .string nm]] w (Fresh .i64 3 [] w) := by
  go_enter Tryz.func31, Tryz.ntmps31
  go_wp2
  go_ret
  exact fresh_lit rfl rfl (by omega)
set_option maxHeartbeats 1000000 in
theorem sRegs2 (a b c d : Int) (nm : ByteArray) (w : World) : Calls Tryz.prog 31 #[.agg #[.int .i64 2, .int .i64 a, .int .i64 b, .int .i64 c, .int .i64 d, .string nm]] w (Fresh .i64 3 [] w) := by
  go_enter Tryz.func31, Tryz.ntmps31
  go_wp2
  go_ret
  exact fresh_lit rfl rfl (by omega)
set_option maxHeartbeats 1000000 in
theorem sRegs3 (a b c d : Int) (nm : ByteArray) (w : World) : Calls Tryz.prog 31 #[.agg #[.int .i64 3, .int .i64 a, .int .i64 b, .int .i64 c, .int .i64 d, .string nm]] w (Fresh .i64 3 [] w) := by
  go_enter Tryz.func31, Tryz.ntmps31
  go_wp2
  go_ret
  exact fresh_lit rfl rfl (by omega)
set_option maxHeartbeats 1000000 in
theorem sRegs4 (a b c d : Int) (nm : ByteArray) (w : World) : Calls Tryz.prog 31 #[.agg #[.int .i64 4, .int .i64 a, .int .i64 b, .int .i64 c, .int .i64 d, .string nm]] w (Fresh .i64 3 [] w) := by
  go_enter Tryz.func31, Tryz.ntmps31
  go_wp2
  go_ret
  exact fresh_lit rfl rfl (by omega)
theorem regs_no {op a b c d : Int} {nm : ByteArray} (h : ¬ (1 ≤ op ∧ op ≤ 10)) : regsOf ⟨op, a, b, c, d, nm⟩ = [] := by
  unfold regsOf
  simp only []
  repeat (rw [if_neg (by omega)])
theorem specRegs (x : I) (w : World) : Calls Tryz.prog 31 #[.agg #[.int .i64 x.op, .int .i64 x.a, .int .i64 x.b, .int .i64 x.c, .int .i64 x.d, .string x.name]] w (Fresh .i64 3 (regsOf x) w) := by
  obtain ⟨op, a, b, c, d, nm⟩ := x
  rcases opCases op with rfl | rfl | rfl | rfl | rfl | rfl | rfl | rfl | rfl | rfl | h
  · exact sRegs1 a b c d nm w
  · exact sRegs2 a b c d nm w
  · exact sRegs3 a b c d nm w
  · exact sRegs4 a b c d nm w
  · exact sRegs5 a b c d nm w
  · exact sRegs6 a b c d nm w
  · exact sRegs7 a b c d nm w
  · exact sRegs8 a b c d nm w
  · exact sRegs9 a b c d nm w
  · exact sRegs10 a b c d nm w
  · rw [regs_no h]
    exact sRegs0 op a b c d nm w h
end Go.Proofs.YtgibhbplgiejpaaGreat
