/- Of no program: a law's arguments opened as data. What a law of chapter 12 is handed, as data. What a law is handed, as data: Message, with its type. For every vat and every message, valid or not, and every peer, laws.FnExactPush returns true: impl.Push answers as the reference model's Push, and writes into nothing that it was handed, and what it hands back it owns. Conditions: none beyond the form's. Each argument reads behind the call as it read before. -/
import Derived.Test.YtmeacgpebpfpbaaGreatTyE0
import Derived.Test.YtmeacgpebpfpbaaGreatTyV0
import Derived.Test.YtmeacgpebpfpbaaGreatTyM1
import Derived.Test.YtmeacgpebpfpbaaGreatRows
import Derived.Test.YtmeacgpebpfpbaaGreatBase
import Derived.Test.YtmeacgpebpfpbaaGreatLPush
import Derived.WalkKit
import Derived.ProofKit
import Derived.OpenShut
import Derived.Carry
import Derived.SizedLaws
import Derived.ChangeSlices
import Derived.Deep.DeepHandedRow
section
namespace Go.Proofs.YtmeacgpebpfpbaaGreat
open Go.RowKit Go.Joins Go.ChangeShapes Go.WideShapes Go.Deep
section
variable {H : Type} {enc : TypeId × Value → H} {P : Program} {W : World} {b0 : Nat} {v : Value} {d : DataW H} {p : List MemPlace}
theorem open_recd {t : Ty} {T : TypeId} {fs : Array Field} (ht : tiedB P t T = true) (hs : P.underlying T = some (.struct fs)) (hv : Value.okWide P W .any b0 T v) (h : DataW.Trod enc P W 0 (fun _ => true) true T v d p) (hlt : ∀ x ∈ p, x.block < W.heap.size) :
    ∃ (l : List Value) (dd : Dat), v = .agg ⟨l⟩ ∧ Has t dd ∧ Lies W dd l := by
  obtain ⟨⟨l⟩, rfl, -⟩ := okWide_struct hs hv
  obtain ⟨fuel, hf⟩ := h
  obtain ⟨dd, hT, hL⟩ := open_dat t T _ _ _ ht hf hlt
  exact ⟨l, dd, rfl, hT, hL⟩

end
end Go.Proofs.YtmeacgpebpfpbaaGreat
end
section
namespace Go.Proofs.YtmeacgpebpfpbaaGreat
open Go.RowKit Go.Joins Go.ChangeShapes Go.WideShapes Go.Deep
set_option maxRecDepth 100000 in
theorem openVat {H : Type} {enc : TypeId × Value → H} {W : World} {b0 : Nat} {v : Value} {d : DataW H} {p : List MemPlace} (hv : Value.okWide Tryz.prog W .any b0 27 v) (h : DataW.Trod enc Tryz.prog W 0 (fun _ => true) true 27 v d p) (hlt : ∀ x ∈ p, x.block < W.heap.size) :
    ∃ (f0 : Int) (L1 : List Dat) (A1 : Option Addr) (n1 c1 : Nat) (L2 : List Dat) (A2 : Option Addr) (n2 c2 : Nat) (L3 : List Dat) (A3 : Option Addr) (n3 c3 : Nat) (L4 : List Dat) (A4 : Option Addr) (n4 c4 : Nat), v = .agg #[.int .i64 f0, .slice A1 n1 c1, .slice A2 n2 c2, .slice A3 n3 c3, .slice A4 n4 c4] ∧ Lies W (.l L1) [.slice A1 n1 c1] ∧ (∀ x ∈ L1, Has tyEntity x) ∧ n1 ≤ 9223372036854775807 ∧ Lies W (.l L2) [.slice A2 n2 c2] ∧ (∀ x ∈ L2, Has tySent x) ∧ n2 ≤ 9223372036854775807 ∧ Lies W (.l L3) [.slice A3 n3 c3] ∧ (∀ x ∈ L3, Has tyLink x) ∧ n3 ≤ 9223372036854775807 ∧ Lies W (.l L4) [.slice A4 n4 c4] ∧ (∀ x ∈ L4, Has tyOutgoing x) ∧ n4 ≤ 9223372036854775807 := by
  obtain ⟨l, dd, rfl, hT, hL⟩ := open_recd tiedVat Tryz.underlying27 hv h hlt
  obtain ⟨f0, L1, A1, n1, c1, L2, A2, n2, c2, L3, A3, n3, c3, L4, A4, n4, c4, rfl, rfl, hl1, ht1, hm1, hl2, ht2, hm2, hl3, ht3, hm3, hl4, ht4, hm4⟩ := invVat hT hL
  exact ⟨f0, L1, A1, n1, c1, L2, A2, n2, c2, L3, A3, n3, c3, L4, A4, n4, c4, rfl, hl1, ht1, hm1, hl2, ht2, hm2, hl3, ht3, hm3, hl4, ht4, hm4⟩
end Go.Proofs.YtmeacgpebpfpbaaGreat
end
section
namespace Go.Proofs.YtmeacgpebpfpbaaGreat
open Go.RowKit Go.Joins Go.ChangeShapes Go.WideShapes Go.Deep
set_option maxRecDepth 100000 in
theorem openMessageH {H : Type} {enc : TypeId × Value → H} {W : World} {b0 : Nat} {v : Value} {d : DataW H} {p : List MemPlace} (hv : Value.okWide Tryz.prog W .any b0 34 v) (h : DataW.Trod enc Tryz.prog W 0 (fun _ => true) true 34 v d p) (hlt : ∀ x ∈ p, x.block < W.heap.size) :
    ∃ (f0 : Int) (f1 : Int) (f2 : Int) (f3 : Int) (f4 : ByteArray) (L5 : List Dat) (A5 : Option Addr) (n5 c5 : Nat) (f6_0 : Int) (f6_1 : Int) (f7 : Int) (f8_0 : Int) (f8_1 : Int) (f8_2 : Int), v = .agg #[.int .i64 f0, .int .i64 f1, .int .i64 f2, .int .i64 f3, .string f4, .slice A5 n5 c5, .int .i64 f6_0, .int .i64 f6_1, .int .i64 f7, .int .i64 f8_0, .int .i64 f8_1, .int .i64 f8_2] ∧ f4.size ≤ 9223372036854775807 ∧ Lies W (.l L5) [.slice A5 n5 c5] ∧ (∀ x ∈ L5, Has tyWire x) ∧ n5 ≤ 9223372036854775807 ∧ Has tyMessage (.r [.i f0, .i f1, .i f2, .i f3, .s f4, .l L5, .r [.i f6_0, .i f6_1], .i f7, .r [.i f8_0, .i f8_1, .i f8_2]]) := by
  obtain ⟨l, dd, rfl, hT, hL⟩ := open_recd tiedMessage Tryz.underlying34 hv h hlt
  have hT2 := hT
  obtain ⟨f0, f1, f2, f3, f4, L5, A5, n5, c5, f6_0, f6_1, f7, f8_0, f8_1, f8_2, rfl, rfl, hf4, hl5, ht5, hm5⟩ := invMessage hT hL
  exact ⟨f0, f1, f2, f3, f4, L5, A5, n5, c5, f6_0, f6_1, f7, f8_0, f8_1, f8_2, rfl, hf4, hl5, ht5, hm5, hT2⟩
end Go.Proofs.YtmeacgpebpfpbaaGreat
end
section
namespace Go.Proofs.YtmeacgpebpfpbaaGreat.fnExactPush
open Go.ChangeShapes Go.WideShapes Go.ChangeAt Go.RowKit
open Go.ChangeMaps (open_string)
set_option linter.unusedVariables false

theorem own : ownKnob Tryz.prog.godebug = none := by kernel_rfl
theorem laidOut : laidOutB Tryz.prog = true := by kernel_rfl

set_option maxRecDepth 100000 in
theorem contract (H : Type) (enc : TypeId × Value → H) (W : World) (base : Nat) (args : Array Value) (ds gs : List (DataW H)) (before : List MemPlace)
    (hval : ∀ (j : Nat) t v, Tryz.f3.params[j]? = some t → args[j]? = some v → Value.okWide Tryz.prog W .any base t v)
    (hW : DataW.Whole enc Tryz.prog Tryz.f3.params.toList Rows.fnExactPushSpec.vars false W args.toList ds gs before)
    (hsz0 : (DataW.weightsEach Tryz.prog (Tryz.f3.params.toList ++ Rows.fnExactPushSpec.plain.varTypes Tryz.prog) (ds ++ gs)).all (· ≤ reachBytes) = true) :
    Calls Tryz.prog 3 args W fun e W' => ∃ v, e = .returned v ∧ Rows.fnExactPushSpec.post enc Tryz.prog Tryz.f3 false true false false W args v W' := by
  have hW' := hW
  obtain ⟨p, q, hA0, hV, rfl, hfz, hnd⟩ := hW
  have hA : DataW.TrodAll enc Tryz.prog W 0 (fun _ => true) true Tryz.f3.params.toList args.toList ds p := hA0
  have hsz := hsz0
  clear hsz0
  rw [Tryz.params3] at hA hval hsz
  obtain ⟨v0, vs0, d0, ds0, p0, q0, hargs, rfl, rfl, h0, r0⟩ := trodAll_cons hA
  obtain ⟨v1, vs1, d1, ds1, p1, q1, rfl, rfl, rfl, h1, r1⟩ := trodAll_cons r0
  obtain ⟨v2, vs2, d2, ds2, p2, q2, rfl, rfl, rfl, h2, r2⟩ := trodAll_cons r1
  obtain ⟨rfl, rfl, rfl⟩ := trodAll_nil r2
  obtain rfl : args = #[v0, v1, v2] := by cases args; simp_all
  obtain ⟨rfl, rfl⟩ := trodVars_none hV
  obtain ⟨p0f0, p0L1, p0A1, p0n1, p0c1, p0L2, p0A2, p0n2, p0c2, p0L3, p0A3, p0n3, p0c3, p0L4, p0A4, p0n4, p0c4, rfl, p0hl1, p0ht1, p0hm1, p0hl2, p0ht2, p0hm2, p0hl3, p0ht3, p0hm3, p0hl4, p0ht4, p0hm4⟩ := openVat (hval 0 27 v0 rfl rfl) h0 (fun x hx => hW'.lt x (by simp [hx]))
  obtain ⟨a1, rfl, rfl, rfl, wf1⟩ := open_int Tryz.underlying3 (hval 1 3 v1 rfl rfl) h1
  obtain ⟨p2f0, p2f1, p2f2, p2f3, p2f4, p2L5, p2A5, p2n5, p2c5, p2f6_0, p2f6_1, p2f7, p2f8_0, p2f8_1, p2f8_2, rfl, p2hf4, p2hl5, p2ht5, p2hm5, p2hT⟩ := openMessageH (hval 2 34 v2 rfl rfl) h2 (fun x hx => hW'.lt x (by simp [hx]))
  refine (law_Push p0f0 p0L1 p0A1 p0n1 p0c1 p0L2 p0A2 p0n2 p0c2 p0L3 p0A3 p0n3 p0c3 p0L4 p0A4 p0n4 p0c4 a1 p2f0 p2f1 p2f2 p2f3 p2f4 p2L5 p2A5 p2n5 p2c5 p2f6_0 p2f6_1 p2f7 p2f8_0 p2f8_1 p2f8_2 W p0hl1 p0ht1 p0hm1 p0hl2 p0ht2 p0hm2 p0hl3 p0ht3 p0hm3 p0hl4 p0ht4 p0hm4 (wf_bounds wf1).1 (wf_bounds wf1).2 p2hf4 p2hl5 p2ht5 p2hm5 p2hT).mono fun e W' ⟨he, hb⟩ => ?_
  subst he
  exact ⟨_, rfl, law_post laidOut (by kernel_rfl) (t := 4) (by kernel_rfl) Tryz.underlying4 rfl rfl rfl rfl hW' hb⟩

theorem laid_met (os : Os) : laidMetH Tryz.prog Rows.fnExactPushRow.laid ((World.holding Tryz.prog os ⟨#[], #[], []⟩).forCall (fun _ _ => 0) ⟨#[], #[.agg #[.int .i64 0, .slice none 0 0, .slice none 0 0, .slice none 0 0, .slice none 0 0], .int .i64 0, .agg #[.int .i64 0, .int .i64 0, .int .i64 0, .int .i64 0, .string ⟨#[]⟩, .slice none 0 0, .int .i64 0, .int .i64 0, .int .i64 0, .int .i64 0, .int .i64 0, .int .i64 0]], []⟩).memory :=
  laidMetH_nil _ _
theorem reads (os : Os) {H : Type} (enc : TypeId × Value → H) : ∃ places, DataW.whole enc Tryz.prog ((World.holding Tryz.prog os ⟨#[], #[], []⟩).forCall (fun _ _ => 0) ⟨#[], #[.agg #[.int .i64 0, .slice none 0 0, .slice none 0 0, .slice none 0 0, .slice none 0 0], .int .i64 0, .agg #[.int .i64 0, .int .i64 0, .int .i64 0, .int .i64 0, .string ⟨#[]⟩, .slice none 0 0, .int .i64 0, .int .i64 0, .int .i64 0, .int .i64 0, .int .i64 0, .int .i64 0]], []⟩).memory Tryz.f3.params.toList Rows.fnExactPushSpec.vars false (#[.agg #[.int .i64 0, .slice none 0 0, .slice none 0 0, .slice none 0 0, .slice none 0 0], .int .i64 0, .agg #[.int .i64 0, .int .i64 0, .int .i64 0, .int .i64 0, .string ⟨#[]⟩, .slice none 0 0, .int .i64 0, .int .i64 0, .int .i64 0, .int .i64 0, .int .i64 0, .int .i64 0]] : Array Value).toList 8 = some ([.agg [.lit (.int .i64 0), .nil, .nil, .nil, .nil], .lit (.int .i64 0), .agg [.lit (.int .i64 0), .lit (.int .i64 0), .lit (.int .i64 0), .lit (.int .i64 0), .lit (.string []), .nil, .agg [.lit (.int .i64 0), .lit (.int .i64 0)], .lit (.int .i64 0), .agg [.lit (.int .i64 0), .lit (.int .i64 0), .lit (.int .i64 0)]]], [], places) :=
  ⟨[], by kernel_rfl⟩

set_option maxRecDepth 100000 in
theorem lifted (os : Os) (started : os.Started) (H : Type) (enc : TypeId × Value → H) (F : Stop.Interp) :
    ReturnsInHanded {} Tryz.checked os 3 .any ((OpenSpec.ofChange Rows.fnExactPushSpec).preRow enc Tryz.prog Tryz.f3 Rows.fnExactPushRow.domain false Rows.fnExactPushRow.laid) (((OpenSpec.ofChange Rows.fnExactPushSpec).at F).post enc Tryz.prog Tryz.f3 false true false false) := by
  obtain ⟨places, hx⟩ := reads os enc
  refine returnsInHanded_of_row (C := Tryz.checked) (s := (OpenSpec.ofChange Rows.fnExactPushSpec)) own started (by kernel_rfl) Tryz.func3
    (witness_row_at (enc := enc) (C := Tryz.checked) false (World.holding Tryz.prog os ⟨#[], #[], []⟩) #[.agg #[.int .i64 0, .slice none 0 0, .slice none 0 0, .slice none 0 0, .slice none 0 0], .int .i64 0, .agg #[.int .i64 0, .int .i64 0, .int .i64 0, .int .i64 0, .string ⟨#[]⟩, .slice none 0 0, .int .i64 0, .int .i64 0, .int .i64 0, .int .i64 0, .int .i64 0, .int .i64 0]] rfl (by kernel_rfl) (by kernel_rfl) (by kernel_rfl)
      (OpenSpec.preRow_of_cond 8 hx (by kernel_rfl) (fun k hk => by cases hk) (by kernel_rfl) (laid_met os))) ?_
  intro W base args ds gs before hval hW _ hcond hsz hL _ _
  exact contract H enc W base args ds gs before hval hW hsz

theorem said : Rows.FnExactPushSaid :=
  OpenClaim.holds_of_cond 3 Tryz.f3 rfl rfl rfl rfl rfl rfl rfl ⟨rfl, rfl, rfl, rfl, rfl⟩ rfl rfl rfl rfl rfl (by kernel_rfl) Tryz.func3 (by kernel_rfl)
    (of_decide_eq_true (by kernel_rfl)) (by unfold Func.isWrapper; first | (rw [if_pos (by decide +kernel)]; kernel_rfl) | (rw [if_neg (by decide +kernel)]; exact ⟨rfl, rfl⟩))
    (fun os started H enc _ F => by rw [OpenClaim.pre_eq_preRow]; exact lifted os started H enc F)
theorem proved : Rows.FnExactPushSaid := said
#print axioms proved
end Go.Proofs.YtmeacgpebpfpbaaGreat.fnExactPush
end
