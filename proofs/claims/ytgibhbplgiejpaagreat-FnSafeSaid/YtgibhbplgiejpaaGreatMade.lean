/- Chapter 8: MadeBy, the program's. -/
import Derived.Test.YtgibhbplgiejpaaGreatOnce
import Derived.Test.YtgibhbplgiejpaaGreatTyA
namespace Go.Proofs.YtgibhbplgiejpaaGreat
open Go.RowKit
set_option linter.unusedVariables false
set_option linter.unusedSimpArgs false
def nameI (x : Dat) : List ByteArray := if (insOf x).op = 7 then [(insOf x).name] else []
def namesI (L : List Dat) : List ByteArray := L.flatMap nameI
def namesM (M : List Dat) : List ByteArray := M.flatMap fun m => namesI (codeOf m)
def madeL (M : List Dat) : List ByteArray := onceL [] (namesM M)
theorem nameI_yes {f0 f1 f2 f3 f4 : Int} {f5 : ByteArray} (h : f0 = 7) : nameI (.r [.i f0, .i f1, .i f2, .i f3, .i f4, .s f5]) = [f5] := by
  unfold nameI insOf
  simp [h]
theorem nameI_no {f0 f1 f2 f3 f4 : Int} {f5 : ByteArray} (h : ¬ f0 = 7) : nameI (.r [.i f0, .i f1, .i f2, .i f3, .i f4, .s f5]) = [] := by
  unfold nameI insOf
  simp [h]
theorem namesI_next {L : List Dat} {k : Nat} {d : Dat} (h : L[k]? = some d) : namesI (L.take (k + 1)) = namesI (L.take k) ++ nameI d := by
  rw [List.take_add_one, h]
  simp [namesI]
theorem namesM_next {M : List Dat} {i : Nat} {f0 : ByteArray} {L1 : List Dat} (h : M[i]? = some (.r [.s f0, .l L1])) : namesM (M.take (i + 1)) = namesM (M.take i) ++ namesI L1 := by
  rw [List.take_add_one, h]
  simp [namesM, codeOf]
theorem nameI_len (d : Dat) : (nameI d).length ≤ 1 := by unfold nameI; split <;> simp
theorem namesI_len : ∀ (L : List Dat), (namesI L).length ≤ L.length
  | [] => by simp [namesI]
  | d :: L => by
    have h1 := nameI_len d
    have h2 := namesI_len L
    have e : namesI (d :: L) = nameI d ++ namesI L := rfl
    rw [e, List.length_append, List.length_cons]; omega
theorem codeOf_len (d : Dat) : (codeOf d).length ≤ d.bulk := by
  unfold codeOf
  split
  · simp only [Dat.bulk, bulkAll]; omega
  · simp
theorem namesM_len : ∀ (M : List Dat), (namesM M).length ≤ bulkAll M
  | [] => by simp [namesM]
  | d :: M => by
    have h1 := codeOf_len d
    have h3 := namesI_len (codeOf d)
    have h2 := namesM_len M
    have e : namesM (d :: M) = namesI (codeOf d) ++ namesM M := rfl
    rw [e, List.length_append, bulkAll]; omega
theorem nameI_size {d : Dat} {x : ByteArray} (h : Has tyInstr d) (hx : x ∈ nameI d) : x.size ≤ d.bulk := by
  simp only [tyInstr, Has, HasAll] at h
  obtain ⟨ds, rfl, _, _, rfl, ⟨f0, rfl, h0⟩, _, _, rfl, ⟨f1, rfl, h1⟩, _, _, rfl, ⟨f2, rfl, h2⟩, _, _, rfl, ⟨f3, rfl, h3⟩, _, _, rfl, ⟨f4, rfl, h4⟩, _, _, rfl, ⟨f5, rfl, -⟩, rfl⟩ := h
  by_cases e : f0 = 7
  · rw [nameI_yes e] at hx
    rw [List.mem_singleton.1 hx]
    simp only [Dat.bulk, bulkAll]; omega
  · rw [nameI_no e] at hx; cases hx
theorem namesM_size {M : List Dat} {x : ByteArray} (h : ∀ d ∈ M, Has tyMethod d) (hx : x ∈ namesM M) : x.size ≤ bulkAll M := by
  obtain ⟨m, hm, hx⟩ := List.mem_flatMap.1 hx
  obtain ⟨d, hd, hx2⟩ := List.mem_flatMap.1 hx
  have hmt := h m hm
  have h1 := bulk_mem hm
  simp only [tyMethod, Has, HasAll] at hmt
  obtain ⟨ds, rfl, d0, r0, rfl, ⟨f0, rfl, hf0⟩, d1, r1, rfl, ⟨L1, rfl, hm1, ht1⟩, rfl⟩ := hmt
  have h2 : d ∈ L1 := hd
  have h3 := nameI_size (ht1 d h2) hx2
  have h4 := bulk_mem h2
  simp only [Dat.bulk, bulkAll] at h1
  omega
/-- The names so far, and the argument's box ahead of them. -/
structure MdS (W : World) (f0 : ByteArray) (A : Option Addr) (n c : Nat) (L : List ByteArray) (w : World) (A' : Option Addr) (m cap : Nat) : Prop where
  row : FG 9 (W.heap.size + 1) W.heap.size W (L.map Dat.s) w A' m cap
  box : Box W.heap.size [.string f0, .slice A n c] w
section
variable {W w w1 w' : World} {f0 : ByteArray} {A A' A2 : Option Addr} {n c m cap c2 : Nat} {L : List ByteArray} {x : ByteArray}
theorem MdS.start (W : World) (f0 : ByteArray) (A : Option Addr) (n c : Nat) (T : TypeId) : MdS W f0 A n c [] ((W.alloc (.cells #[.string f0, .slice A n c] T)).alloc (.cells #[] 9)) (some ⟨W.heap.size + 1, 0, none⟩) 0 0 := by
  have h := FG.lit 9 (W.alloc (.cells #[.string f0, .slice A n c] T)) W W.heap.size ((Below.refl _ _).alloc (Nat.le_refl _) _) (by simp)
  rw [World.size_alloc] at h
  exact ⟨h, (Box.new W #[.string f0, .slice A n c] T).alloc _⟩
theorem MdS.below (h : MdS W f0 A n c L w A' m cap) (hb : Below w.heap.size w w') : MdS W f0 A n c L w' A' m cap := ⟨h.row.below hb, h.box.below hb⟩
theorem MdS.count (h : MdS W f0 A n c L w A' m cap) : L.length = m := by have h1 := h.row.count; rw [List.length_map] at h1; exact h1
theorem MdS.lo (h : MdS W f0 A n c L w A' m cap) : W.heap.size + 1 ≤ w.heap.size := h.box.1
theorem MdS.two (h : MdS W f0 A n c L w A' m cap) : w.cell? ⟨W.heap.size, 0, none⟩ = some (.string f0) ∧ w.cell? ⟨W.heap.size, 1, none⟩ = some (.slice A n c) := ⟨h.box.2 0 _ rfl, h.box.2 1 _ rfl⟩
theorem MdS.next (h : MdS W f0 A n c L w A' m cap) (hb : Below w.heap.size w w1) (hG : Grow 9 1 (W.heap.size + 1) w' A2 (m + 1) c2 (L.map Dat.s ++ [.s x]) (fun _ => False ∨ False)) (hT : Touch (fun b => ∃ a, A' = some a ∧ b = a.block) w1 w')
    (hA : ∀ a, A2 = some a → A' = some a ∨ w1.heap.size ≤ a.block) : MdS W f0 A n c (L ++ [x]) w' A2 (m + 1) c2 := by
  have h1 := hb.size
  have h2 := h.lo
  refine ⟨?_, (h.box.below hb).touch hT (fun ⟨a, e, hb⟩ => h.row.away a e hb.symm)⟩
  rw [List.map_append]
  exact h.row.next hb (by omega) (by omega) hG hT hA
end
theorem strs_at {w : World} {L : List ByteArray} {A : Option Addr} {n c j : Nat} (h : Lies w (.l (L.map Dat.s)) [.slice A n c]) (hj : j < n) : ∃ b off v, A = some ⟨b, off, none⟩ ∧ b < w.heap.size ∧ L[j]? = some v ∧ w.cell? ⟨b, off + j, none⟩ = some (.string v) := by
  obtain ⟨b, off, d, xs, rfl, hbw, hzi, hlie, hlen, hcell0⟩ := Lies.elem (k := 1) h (fun x hx => by obtain ⟨y, -, rfl⟩ := List.mem_map.1 hx; rfl) hj
  obtain ⟨v, hv, rfl⟩ : ∃ v, L[j]? = some v ∧ d = .s v := by
    rw [List.getElem?_map] at hzi
    cases h1 : L[j]? with
    | none => rw [h1] at hzi; cases hzi
    | some x => rw [h1] at hzi; exact ⟨x, rfl, (Option.some.inj hzi).symm⟩
  rw [Lies] at hlie
  subst hlie
  exact ⟨b, off, v, rfl, hbw, hv, by have h1 := hcell0 0 _ rfl; simpa using h1⟩
theorem FreshD.from {L : List Dat} {W w w' : World} {e : Ending} (h : FreshD L w e w') (hb : Below W.heap.size W w) : FreshD L W e w' := by
  obtain ⟨A, n, c, he, hO, hb2⟩ := h
  exact ⟨A, n, c, he, hO.mono (fun b hb3 => ⟨Nat.le_trans hb.size hb3.1, hb3.2⟩), hb.trans (hb2.mono hb.size)⟩
/-- Names that come back. -/
def GivesNames (L : List ByteArray) (w : World) (e : Ending) (w' : World) : Prop := FreshD (L.map Dat.s) w e w'
set_option maxRecDepth 100000 in
set_option maxHeartbeats 8000000 in
theorem implMade (f0 : ByteArray) (M : List Dat) (A : Option Addr) (n c : Nat) (w : World) (h : Lies w (.l M) [.slice A n c]) (ht : ∀ x ∈ M, Has tyMethod x) (hq : (Dat.r [.s f0, .l M]).bulk ≤ 1099511627776) :
    Calls Tryz.prog 12 #[.agg #[.string f0, .slice A n c]] w (GivesNames (madeL M) w) := by
  obtain ⟨i0, hi, hz0, hz1, hz2⟩ := info_parts infoS8
  have hn : n ≤ 1099511627776 := by have := h.count; simp only [Dat.bulk, bulkAll] at hq; omega
  have hbk : bulkAll M ≤ 1099511627776 := by simp only [Dat.bulk, bulkAll] at hq; omega
  have H := Lib.hid h
  have HT := Lib.hid ht
  have HC := Lib.hid h.count
  have M0 := Lib.hid (MdS.start w f0 A n c 37)
  clear h ht
  go_enter Tryz.func12, Tryz.ntmps12
  go_wp2
  go_loopw [3, 12] (fun sv iv wr => ∃ (A' : Option Addr) (m cap i : Nat), sv = .slice A' m cap ∧ iv = .int .i64 i ∧ i ≤ n ∧ MdS w f0 A n c (namesM (M.take i)) wr A' m cap) (fun _ iv _ => n - (intOf iv).toNat)
  case atStart => exact ⟨_, _, _, 0, rfl, rfl, Nat.zero_le _, M0.out⟩
  case round =>
    rename World => wo
    obtain ⟨A', m, cap, i, rfl, rfl, hin, hM⟩ := hrel
    have MM := Lib.hid hM
    clear hM M0
    by_cases hlt : i < n
    · obtain ⟨b, off, d, xs, rfl, hbw, hzi, hlie, hlen, hcell⟩ := H.out.elem (fun x hx => (HT.out x hx).width) hlt
      obtain ⟨g0, L1, A1, n1, c1, rfl, rfl, hg0, hl1, ht1, hm1⟩ := invMethod (HT.out d (List.mem_of_getElem? hzi)) hlie
      have r0 : wo.cell? ⟨b, off + i * 2, none⟩ = some (.string g0) := (MM.out.row.low.cell (p := ⟨b, off + i * 2, none⟩) hbw).trans (hcell 0 _ rfl)
      have r1 : wo.cell? ⟨b, off + i * 2 + 1, none⟩ = some (.slice A1 n1 c1) := (MM.out.row.low.cell (p := ⟨b, off + i * 2 + 1, none⟩) hbw).trans (hcell 1 _ rfl)
      have HLN := Lib.hid hl1.count
      have hbb : (namesM (M.take i)).length + n1 ≤ 1099511627776 := by
        have h1 := bulk_next hzi
        have h2 := bulk_take_le M (i + 1)
        have h3 := namesM_len (M.take i)
        have h4 := HLN.out
        simp only [Dat.bulk, bulkAll] at h1
        omega
      have HN := Lib.hid (namesM_next hzi)
      have B1 : Hid (∀ o, Below wo.heap.size wo (wo.alloc o)) := Lib.hid (fun o => (Below.refl _ _).alloc (Nat.le_refl _) o)
      have HL1 := Lib.hid hl1
      have HT1 := Lib.hid ht1
      have M1 : Hid (∀ o, MdS w f0 (some ⟨b, off, none⟩) n c (namesM (M.take i) ++ namesI (L1.take 0)) (wo.alloc o) A' m cap) := Lib.hid (fun o => by simp only [List.take_zero, namesI, List.flatMap_nil, List.append_nil]; exact MM.out.below (B1.out o))
      clear hzi hcell hlie hl1 ht1
      go_wp2_with fail
      go_loopw [3, 19] (fun sv kv wq => ∃ (A' : Option Addr) (m cap k : Nat), sv = .slice A' m cap ∧ kv = .int .i64 k ∧ k ≤ n1 ∧ MdS w f0 (some ⟨b, off, none⟩) n c (namesM (M.take i) ++ namesI (L1.take k)) wq A' m cap) (fun _ kv _ => n1 - (intOf kv).toNat)
      case atStart => exact ⟨A', m, cap, 0, rfl, rfl, Nat.zero_le _, M1.out _⟩
      case round =>
        obtain ⟨A', m, cap, k, rfl, rfl, hkn, hM⟩ := hrel
        replace MM := Lib.hid hM
        have HLL := Lib.hid (HL1.out.below MM.out.row.low)
        clear hM M1
        by_cases hlk : k < n1
        · obtain ⟨b2, off2, d, xs, rfl, hbw2, hzi, hlie, hlen, hcell⟩ := HLL.out.elem (fun x hx => (HT1.out x hx).width) hlk
          obtain ⟨f0', f1, f2, f3, f4, f5, hd, rfl, hf5⟩ := invInstr (HT1.out d (List.mem_of_getElem? hzi)) hlie
          have s0 : wr.cell? ⟨b2, off2 + k * 6, none⟩ = some (.int .i64 f0') := hcell 0 _ rfl
          have s1 : wr.cell? ⟨b2, off2 + k * 6 + 1, none⟩ = some (.int .i64 f1) := hcell 1 _ rfl
          have s2 : wr.cell? ⟨b2, off2 + k * 6 + 2, none⟩ = some (.int .i64 f2) := hcell 2 _ rfl
          have s3 : wr.cell? ⟨b2, off2 + k * 6 + 3, none⟩ = some (.int .i64 f3) := hcell 3 _ rfl
          have s4 : wr.cell? ⟨b2, off2 + k * 6 + 4, none⟩ = some (.int .i64 f4) := hcell 4 _ rfl
          have s5 : wr.cell? ⟨b2, off2 + k * 6 + 5, none⟩ = some (.string f5) := hcell 5 _ rfl
          have HNI := Lib.hid (namesI_next hzi)
          have hcm : m ≤ 1099511627776 := by
            have h1 := MM.out.count
            have h2 := namesI_len (L1.take k)
            rw [List.length_append] at h1
            rw [List.length_take] at h2
            omega
          have B2 : Hid (∀ o, Below wr.heap.size wr (wr.alloc o)) := Lib.hid (fun o => (Below.refl _ _).alloc (Nat.le_refl _) o)
          subst hd
          clear hzi hcell hlie
          by_cases h7 : f0' = 7
          · subst h7
            have B3 : Hid (∀ o o2, Below wr.heap.size wr ((wr.alloc o).alloc o2)) := Lib.hid (fun o o2 => by go_grown)
            have hlo := MM.out.lo
            go_wp2_with (at_builtin; refine wpList_append_dat _ rfl _ _ 39 rfl 1 (by omega) 9 i0 _ 16 Tryz.underlying39 hi hz0 hz1 rfl hz2 (w.heap.size + 1) A' m cap _ _ rfl (MM.out.row.grow.below (B3.out _ _)) (some ⟨wr.heap.size + 1, 0, none⟩) 1 1 [.s f5] (fun _ => False) rfl (by have h1 := Src.lit (w := wr.alloc (.cells #[.int .i64 7, .int .i64 f1, .int .i64 f2, .int .i64 f3, .int .i64 f4, .string f5] 32)) (k := 1) (d := .s f5) (xs := [.string f5]) (C := #[.string f5]) (E := 9) (B := fun _ => False) rfl (by rw [Owns]) rfl (fun b h => h.elim); rw [World.size_alloc] at h1; exact h1) (fun b h => h.elim) (fun a e h => h) (by unfold maxLen; omega) (by omega) (by simp; omega) ?_; intro A2 c2 w2 hG hT hA; have HNN := Lib.hid (MM.out.next (B3.out _ _) hG hT hA); clear hG hT hA)
            go_roundw
            case rel => exact ⟨A2, m + 1, c2, k + 1, rfl, by go_num, by omega, by rw [HNI.out, nameI_yes rfl, ← List.append_assoc]; exact HNN.out⟩
            case measure => (simp [intOf]; try omega)
          · have h7b : (f0' == 7) = false := by simpa using h7
            have H7 := Lib.hid h7
            clear h7
            go_wp2_with fail
            go_roundw
            case rel => exact ⟨A', m, cap, k + 1, rfl, by go_num, by omega, by rw [HNI.out, nameI_no H7.out, List.append_nil]; exact MM.out.below (B2.out _)⟩
            case measure => (simp [intOf]; try omega)
        · have hkk : k = n1 := by omega
          subst hkk
          have HE : Hid (L1.take k = L1) := Lib.hid (List.take_of_length_le (by rw [HLN.out]; exact Nat.le_refl _))
          go_wp2_with fail
          go_roundw
          case rel => exact ⟨A', m, cap, i + 1, rfl, by go_num, by omega, by rw [HN.out]; have h1 := MM.out; rw [HE.out] at h1; exact h1⟩
          case measure => (simp [intOf]; try omega)
    · have hE : i = n := by omega
      subst hE
      have HE : Hid (namesM (M.take i) = namesM M) := Lib.hid (by rw [List.take_of_length_le (by rw [HC.out]; exact Nat.le_refl _)])
      have HLS := Lib.hid MM.out.row.grow.owns.lies
      have hmm : m ≤ 1099511627776 := by have h1 := MM.out.count; have h2 := namesM_len M; rw [HE.out] at h1; omega
      go_wp2_with fail
      refine (onceS (namesM (M.take i)) A' m cap _ HLS.out (by omega) (fun x hx => by rw [HE.out] at hx; have h1 := namesM_size HT.out hx; omega)).mono ?_
      rintro e w2 ⟨A2, m2, c2, rfl, hO, hb⟩
      have HR : Hid (FreshD ((madeL M).map Dat.s) w (.returned (.slice A2 m2 c2)) w2) := Lib.hid (by
        rw [HE.out] at hO
        exact FreshD.from ⟨A2, m2, c2, rfl, hO, hb⟩ MM.out.row.low)
      clear hO hb
      go_wp2_with fail
      go_ret
      exact HR.out
end Go.Proofs.YtgibhbplgiejpaaGreat
