/- Chapter 11, plain: a message is decoded from its encoding, and only from this. -/
import Derived.Test.YtchofnligbgigaaDecF
import Derived.LoopTactic
import Derived.Lib.Hide
import Derived.Deep.QuietTactic
import Derived.BigQuiet
import Derived.Deep.RegionWith
import Derived.Handy
namespace Go.Proofs.Ytchofnligbgigaa
open Go.RowKit
set_option linter.unusedVariables false
set_option linter.unusedSimpArgs false
theorem at0_nat2 {l : List Int} {k J : Nat} (h : (at0 l k).toNat = J) (h0 : 0 ≤ at0 l k) : at0 l k = (J : Int) := by omega
theorem strI_bytesOf {zs : List Int} (h : Byt zs) : strI (bytesOf zs) = zs := by
  show (zs.map fun (z : Int) => UInt8.ofNat z.toNat).toArray.toList.map (fun b => (b.toNat : Int)) = zs
  rw [List.toList_toArray, List.map_map]
  have e : ∀ z ∈ zs, ((fun b : UInt8 => (b.toNat : Int)) ∘ fun (z : Int) => UInt8.ofNat z.toNat) z = z := fun z hz => by
    have h1 := h z hz
    show ((UInt8.ofNat z.toNat).toNat : Int) = z
    rw [UInt8.toNat_ofNat']
    omega
  rw [List.map_congr_left e, List.map_id']
theorem bytesOf_strI (s : ByteArray) : bytesOf (strI s) = s := by
  obtain ⟨⟨l⟩⟩ := s
  show ByteArray.mk ((l.map fun b => (b.toNat : Int)).map fun (z : Int) => UInt8.ofNat z.toNat).toArray = _
  rw [List.map_map]
  have e : ∀ b ∈ l, ((fun (z : Int) => UInt8.ofNat z.toNat) ∘ fun (b : UInt8) => (b.toNat : Int)) b = b := fun b _ => by
    show UInt8.ofNat ((b.toNat : Int)).toNat = b
    rw [Int.toNat_natCast, UInt8.ofNat_toNat]
  rw [List.map_congr_left e, List.map_id']
theorem drop_at0 {ns : List Int} {k : Nat} (h : k < ns.length) : ns.drop k = at0 ns k :: ns.drop (k + 1) := by
  rw [List.drop_eq_getElem_cons h]
  congr 1
  have h1 := at0_some h
  rw [List.getElem?_eq_getElem h] at h1
  exact Option.some.inj h1
theorem flatW_wiresL : ∀ (t : List Int) (J : Nat), t.length = 2 * J → flatW (wiresL t) = t
  | [], _, _ => rfl
  | [a], J, h => by rw [List.length_singleton] at h; omega
  | a :: b :: t, J, h => by
    have := flatW_wiresL t (J - 1) (by simp only [List.length_cons] at h; omega)
    rw [wiresL, flatW, List.flatMap_cons, ← flatW, this]
    rfl
theorem wire_shape {d : Dat} (h : Has tyWire d) : ∃ a b : Int, d = .r [.i a, .i b] := by
  simp only [tyWire, Has, HasAll] at h
  obtain ⟨ds, rfl, d0, _, rfl, ⟨a, rfl, -, -⟩, d1, _, rfl, ⟨b, rfl, -, -⟩, rfl⟩ := h
  exact ⟨a, b, rfl⟩
theorem wiresL_flatW : ∀ (L : List Dat), (∀ d ∈ L, Has tyWire d) → wiresL (flatW L) = L
  | [], _ => rfl
  | d :: L, h => by
    obtain ⟨a, b, rfl⟩ := wire_shape (h d List.mem_cons_self)
    have := wiresL_flatW L (fun x hx => h x (List.mem_cons_of_mem _ hx))
    rw [flatW, List.flatMap_cons, ← flatW]
    show wiresL (a :: b :: flatW L) = _
    rw [wiresL, this]
theorem nums_back {ns : List Int} {J : Nat} (hl : ns.length = 11 + 2 * J) (h10 : at0 ns 10 = (J : Int)) :
    numsM (at0 ns 0) (at0 ns 1) (at0 ns 2) (at0 ns 3) (wiresL (ns.drop 11)) (at0 ns 8) (at0 ns 9) (at0 ns 4) (at0 ns 5) (at0 ns 6) (at0 ns 7) = ns := by
  have hd : (ns.drop 11).length = 2 * J := by rw [List.length_drop]; omega
  rw [numsM, flatW_wiresL _ J hd, wiresL_len _ J hd, ← h10]
  have e0 : ns = ns.drop 0 := rfl
  conv => rhs; rw [e0, drop_at0 (k := 0) (by omega), drop_at0 (k := 1) (by omega), drop_at0 (k := 2) (by omega), drop_at0 (k := 3) (by omega), drop_at0 (k := 4) (by omega), drop_at0 (k := 5) (by omega), drop_at0 (k := 6) (by omega), drop_at0 (k := 7) (by omega), drop_at0 (k := 8) (by omega), drop_at0 (k := 9) (by omega), drop_at0 (k := 10) (by omega)]
  rfl
/-- What is decoded is encoded so. -/
theorem enc_dec {zs ns nm : List Int} (hb : Byt zs) (h : decM zs = some (ns, nm)) :
    okN ns nm = true ∧ encM (at0 ns 0) (at0 ns 1) (at0 ns 2) (at0 ns 3) (bytesOf nm) (wiresL (ns.drop 11)) (at0 ns 8) (at0 ns 9) (at0 ns 4) (at0 ns 5) (at0 ns 6) (at0 ns 7) = zs := by
  obtain ⟨o, hN, hR, hok⟩ := decM_ok hb h
  obtain ⟨o', ho', g1, g2, g3, g4, g5, g6⟩ := numsR_spec hb hN
  obtain rfl : o = o' := by omega
  obtain ⟨hbn, v, k, hru, hnm, he, hv, hle⟩ := readB_spec hb hR
  obtain ⟨p1, p2, p3, p4, p5, p6⟩ := put_readU hb hru
  refine ⟨hok, ?_⟩
  have hn0 := at0_nat2 (l := ns) (k := 10) rfl g2
  rw [encM, if_pos (show msgB _ _ _ _ _ _ _ _ _ _ _ _ = true from hok), nums_back g4 hn0, strI_bytesOf hbn]
  have hov : ((o : Int) + (k : Int)).toNat = o + k := by omega
  rw [hov] at hnm
  have hlen : (zs.drop (o + k)).length = v := by rw [List.length_drop]; omega
  rw [List.take_of_length_le (by omega)] at hnm
  have hnl : nm.length = v := by rw [hnm, hlen]
  rw [Int.toNat_natCast] at p6
  have e1 : zs.drop o = encU (nm.length : Int) ++ nm := by
    rw [hnl, encU_in p5, ← p6, hnm, ← List.drop_drop]
    exact (List.take_append_drop k (zs.drop o)).symm
  rw [List.append_assoc, ← e1]
  exact g6.symm
theorem decGo_pre : ∀ (zs pre rest : List Int), (∀ z ∈ zs, 0 ≤ z ∧ z ≤ 1000000000000) → decGo (pre ++ (encL zs ++ rest)) zs.length (pre.length : Int) = some (zs, ((pre ++ encL zs).length : Int)) := by
  intro zs
  induction zs with
  | nil => intro pre rest _; simp [decGo, encL]
  | cons z zs ih =>
    intro pre rest hz
    have h0 := hz z (by simp)
    obtain ⟨u, rfl⟩ : ∃ u : Nat, z = u := ⟨z.toNat, by omega⟩
    have hu : u ≤ 1000000000000 := by omega
    have e : pre ++ (encL ((u : Int) :: zs) ++ rest) = (pre ++ putU u) ++ (encL zs ++ rest) := by simp [encL, encU_in hu]
    have hr : readU (pre ++ (encL ((u : Int) :: zs) ++ rest)) (pre.length : Int) = some (u, (putU u).length) := by
      rw [e, List.append_assoc]
      exact readU_put pre u (encL zs ++ rest) hu
    have e2 : (pre.length : Int) + ((putU u).length : Int) = ((pre ++ putU u).length : Int) := by simp
    rw [List.length_cons, decGo_yes hr, e2, e, ih (pre ++ putU u) rest (fun y hy => hz y (by simp [hy]))]
    simp [encL, encU_in hu]
theorem decM_nil : decM [] = none := decM_no (numsR_no (by rw [show (11 : Nat) = 10 + 1 from rfl]; exact decGo_no (readU_out (by simp))))
/-- A valid message is decoded from its encoding. -/
theorem dec_enc {f0 f1 f2 f3 : Int} {f4 : ByteArray} {L5 : List Dat} {f6_0 f6_1 f7 f8_0 f8_1 f8_2 : Int} (hv : msgB f0 f1 f2 f3 f4 L5 f6_0 f6_1 f7 f8_0 f8_1 f8_2 = true) (hty : ∀ d ∈ L5, Has tyWire d) : decM (encM f0 f1 f2 f3 f4 L5 f6_0 f6_1 f7 f8_0 f8_1 f8_2) = some (numsM f0 f1 f2 f3 L5 f6_0 f6_1 f7 f8_0 f8_1 f8_2, strI f4) := by
  have hin := msg_in hv
  have hn := nums_in hin
  obtain ⟨H, hH⟩ : ∃ H : List Int, [f0, f1, f2, f3, f7, f8_0, f8_1, f8_2, f6_0, f6_1, (L5.length : Int)] = H := ⟨_, rfl⟩
  have hHl : H.length = 11 := by rw [← hH]; rfl
  have hH10 : at0 H 10 = (L5.length : Int) := by rw [← hH]; rfl
  have hN : numsM f0 f1 f2 f3 L5 f6_0 f6_1 f7 f8_0 f8_1 f8_2 = H ++ flatW L5 := by rw [← hH]; rfl
  have hz : ∀ z ∈ H ++ flatW L5, 0 ≤ z ∧ z ≤ 1000000000000 := fun z hz => by have h1 := hn z (by rw [hN]; exact hz); omega
  obtain ⟨S, hS⟩ : ∃ S, strI f4 = S := ⟨_, rfl⟩
  have hSl : S.length ≤ 6 := by rw [← hS, strI_len]; exact hin.i4
  obtain ⟨R, hR⟩ : ∃ R, encU (S.length : Int) ++ S = R := ⟨_, rfl⟩
  have hL2 := hin.i5.1
  have hE : encM f0 f1 f2 f3 f4 L5 f6_0 f6_1 f7 f8_0 f8_1 f8_2 = encL H ++ (encL (flatW L5) ++ R) := by
    rw [encM, if_pos hv, hN, encL_append, hS, ← hR]
    simp only [List.append_assoc]
  have hok : okN (H ++ flatW L5) S = true := by
    have hd : (H ++ flatW L5).drop 11 = flatW L5 := List.drop_left' hHl
    rw [okN, hd, wiresL_flatW L5 hty, ← hS, bytesOf_strI]
    have ea : ∀ k, k < 11 → at0 (H ++ flatW L5) k = at0 H k := fun k hk => at0_append (by omega)
    rw [ea 0 (by omega), ea 1 (by omega), ea 2 (by omega), ea 3 (by omega), ea 4 (by omega), ea 5 (by omega), ea 6 (by omega), ea 7 (by omega), ea 8 (by omega), ea 9 (by omega), ← hH]
    exact hv
  have d1 : decGo (encM f0 f1 f2 f3 f4 L5 f6_0 f6_1 f7 f8_0 f8_1 f8_2) 11 0 = some (H, ((encL H).length : Int)) := by
    have h1 := decGo_pre H [] (encL (flatW L5) ++ R) (fun z h => hz z (List.mem_append_left _ h))
    rw [List.nil_append, List.nil_append, hHl] at h1
    rw [hE]
    exact h1
  have d2 : decGo (encM f0 f1 f2 f3 f4 L5 f6_0 f6_1 f7 f8_0 f8_1 f8_2) (2 * L5.length) ((encL H).length : Int) = some (flatW L5, ((encL H ++ encL (flatW L5)).length : Int)) := by
    have h1 := decGo_pre (flatW L5) (encL H) R (fun z h => hz z (List.mem_append_right _ h))
    rw [flatW_len] at h1
    rw [hE]
    exact h1
  have hNR : numsR (encM f0 f1 f2 f3 f4 L5 f6_0 f6_1 f7 f8_0 f8_1 f8_2) = some (H ++ flatW L5, ((encL H ++ encL (flatW L5)).length : Int)) := by
    rw [numsR_few d1 (by rw [hH10]; omega), hH10, Int.toNat_natCast, d2]
    rfl
  have hE2 : encM f0 f1 f2 f3 f4 L5 f6_0 f6_1 f7 f8_0 f8_1 f8_2 = (encL H ++ encL (flatW L5)) ++ R := by rw [hE, List.append_assoc]
  obtain ⟨P, hP⟩ : ∃ P, encL H ++ encL (flatW L5) = P := ⟨_, rfl⟩
  rw [hP] at hNR hE2
  clear hP
  have hru : readU (encM f0 f1 f2 f3 f4 L5 f6_0 f6_1 f7 f8_0 f8_1 f8_2) (P.length : Int) = some (S.length, (putU S.length).length) := by
    rw [hE2, ← hR, encU_in (by omega)]
    exact readU_put _ S.length S (by omega)
  have hel : (encM f0 f1 f2 f3 f4 L5 f6_0 f6_1 f7 f8_0 f8_1 f8_2).length = P.length + (putU S.length).length + S.length := by
    rw [hE2, ← hR, encU_in (by omega)]
    simp only [List.length_append]
    omega
  have hRB : readB (encM f0 f1 f2 f3 f4 L5 f6_0 f6_1 f7 f8_0 f8_1 f8_2) (P.length : Int) 6 = some (S, ((encM f0 f1 f2 f3 f4 L5 f6_0 f6_1 f7 f8_0 f8_1 f8_2).length : Int)) := by
    rw [readB_yes hru (by omega)]
    have e1 : ((P.length : Int) + ((putU S.length).length : Int)).toNat = (P ++ putU S.length).length := by rw [List.length_append]; omega
    have e2 : encM f0 f1 f2 f3 f4 L5 f6_0 f6_1 f7 f8_0 f8_1 f8_2 = (P ++ putU S.length) ++ S := by rw [hE2, ← hR, encU_in (by omega), List.append_assoc]
    rw [e1]
    have e3 : (encM f0 f1 f2 f3 f4 L5 f6_0 f6_1 f7 f8_0 f8_1 f8_2).drop (P ++ putU S.length).length = S := by rw [e2]; exact List.drop_left
    rw [e3, List.take_of_length_le (Nat.le_refl _)]
    congr 2
    omega
  rw [decM_at hNR hRB, if_pos ⟨rfl, hok⟩, hN, hS]
theorem dec_no {f0 f1 f2 f3 : Int} {f4 : ByteArray} {L5 : List Dat} {f6_0 f6_1 f7 f8_0 f8_1 f8_2 : Int} (hv : msgB f0 f1 f2 f3 f4 L5 f6_0 f6_1 f7 f8_0 f8_1 f8_2 = false) : decM (encM f0 f1 f2 f3 f4 L5 f6_0 f6_1 f7 f8_0 f8_1 f8_2) = none := by
  rw [encM, if_neg (by rw [hv]; simp)]
  exact decM_nil
end Go.Proofs.Ytchofnligbgigaa
