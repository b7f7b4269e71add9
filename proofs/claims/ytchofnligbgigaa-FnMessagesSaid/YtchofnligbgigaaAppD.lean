/- Of no program: 'append' onto an owned slice, at a step of a region that draws its order. -/
import Derived.Test.YtchofnligbgigaaBase
namespace Go.Proofs.Ytchofnligbgigaa
open Go.RowKit
theorem step_append_rz {P : Program} (w : World) {ops : Array Oper} {o : Oper} {a : Act} {K : Act → World → Prop} {Q : Exit → Act → World → Prop} {X : Prop} (hgd : o.guard = none) (s x : Operand) (t : TypeId)
    (ho : o.op = .call { callee := .builtin .append, args := #[s, x], argTypes := #[t, t] })
    (k : IntKind) (E : TypeId) (i : TypeInfo) (z : Int) (bytes : Nat) (ht : P.underlying t = some (.slice E)) (hi : P.info? E = some i) (hz : i.zero = some (.int k z))
    (hsize : i.size = 1) (hby : i.bytes = bytes) (lo hi' : Nat) (A0 : Option Addr) (n c0 : Nat) (ys : List Int) (hs : a.eval s = .slice A0 n c0) (hO : Own k E lo hi' w A0 n c0 ys)
    (A : Option Addr) (m c : Nat) (zs : List Int) (hx : a.eval x = .slice A m c) (hR : Rz k w A m zs) (h63 : n + m ≤ maxLen) (hbytes : (n + m) * bytes ≤ 140737488355328) (hlo : lo ≤ w.heap.size)
    (h : ∀ A' c' w', Own k E lo w'.heap.size w' A' (n + m) c' (ys ++ zs) → Step lo hi' w w' → K (a.put o.dst (.slice A' (n + m) c')) w') :
    if Region.wanted o (yielded ops a.tmps) = true then Oper.wp P o a w K Q else X := by
  have hw : Region.wanted o (yielded ops a.tmps) = true := by simp [Region.wanted, hgd]
  rw [if_pos hw]
  exact wp_append_rz w s x t ho k E i z bytes ht hi hz hsize hby lo hi' A0 n c0 ys hs hO A m c zs hx hR h63 hbytes hlo h
end Go.Proofs.Ytchofnligbgigaa
