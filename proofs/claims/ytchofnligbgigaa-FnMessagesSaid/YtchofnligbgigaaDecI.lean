/- Chapter 11: the program's DecodeMessage. -/
import Derived.Test.YtchofnligbgigaaDecG
import Derived.Test.YtchofnligbgigaaDecN
import Derived.Test.YtchofnligbgigaaDecO
import Derived.Test.YtchofnligbgigaaIsMI
import Derived.Test.YtchofnligbgigaaLawM0
import Derived.LoopTactic
import Derived.Lib.Hide
import Derived.Deep.QuietTactic
import Derived.BigQuiet
import Derived.Deep.RegionWith
import Derived.Handy
namespace Go.Proofs.Ytchofnligbgigaa
open Go.RowKit
set_option linter.unusedVariables false
set_option linter.unusedSimpArgs false
set_option maxRecDepth 100000 in
set_option maxHeartbeats 16000000 in
theorem implDecM (A : Option Addr) (n c : Nat) (zs : List Int) (w : World) (h : Rz .u8 w A n zs) (hcap : n ≤ c) (hby : Byt zs) (hn : n ≤ 549755813888) :
    Calls Try.prog 13 #[.slice A n c] w (GivesDM (decM zs) w) := by
  have hln := h.1
  have HLN := Lib.hid hln
  have H := Lib.hid h
  have HBY := Lib.hid hby
  have Zr : Hid (Zx w.heap.size [.int .i64 0, .int .i64 0, .int .i64 0, .int .i64 0, .string ⟨#[]⟩, .slice none 0 0, .int .i64 0, .int .i64 0, .int .i64 0, .int .i64 0, .int .i64 0, .int .i64 0] (w.alloc (.cells #[.int .i64 0, .int .i64 0, .int .i64 0, .int .i64 0, .string ⟨#[]⟩, .slice none 0 0, .int .i64 0, .int .i64 0, .int .i64 0, .int .i64 0, .int .i64 0, .int .i64 0] 30))) := Lib.hid (Zx.new w #[.int .i64 0, .int .i64 0, .int .i64 0, .int .i64 0, .string ⟨#[]⟩, .slice none 0 0, .int .i64 0, .int .i64 0, .int .i64 0, .int .i64 0, .int .i64 0, .int .i64 0] 30)
  have HB : Hid (Below w.heap.size w (w.alloc (.cells #[.int .i64 0, .int .i64 0, .int .i64 0, .int .i64 0, .string ⟨#[]⟩, .slice none 0 0, .int .i64 0, .int .i64 0, .int .i64 0, .int .i64 0, .int .i64 0, .int .i64 0] 30))) := Lib.hid ((Below.refl _ _).alloc (Nat.le_refl _) _)
  clear h
  rcases hN : numsR zs with _ | ⟨ns, o⟩
  · rw [decM_no hN]
    have HN := Lib.hid hN
    clear hN hln hby
    go_enter Try.func13, Try.ntmps13
    go_wp2_with fail
    refine (implReadN A n c zs _ (H.out.below HB.out) HBY.out hn).mono ?_
    rintro e w1 ⟨A1, n1, c1, ys, x1, b1, rfl, hO1, hb, hor⟩
    obtain rfl : b1 = false := by
      rcases hor with ⟨h1, -⟩ | ⟨-, h2⟩
      · exact h1
      · rw [HN.out] at h2; cases h2
    clear hor hO1
    replace Zr := Lib.hid (Zr.out.below hb)
    replace HB : Hid (Below w.heap.size w w1) := Lib.hid (HB.out.trans (hb.mono HB.out.size))
    clear hb
    obtain ⟨z0, z1, z2, z3, z4, z5, z6, z7, z8, z9, z10, z11, fz⟩ := Zr.out.c12
    go_wp2_with (
      with_reducible refine bodyPost_ret (v := .tuple #[.agg #[.int .i64 0, .int .i64 0, .int .i64 0, .int .i64 0, .string ⟨#[]⟩, .slice none 0 0, .int .i64 0, .int .i64 0, .int .i64 0, .int .i64 0, .int .i64 0, .int .i64 0], .bool false]) ?hres rfl ?hpost
      case hres =>
        refine results_box2 rfl _ _ (w.heap.size) [.int .i64 0, .int .i64 0, .int .i64 0, .int .i64 0, .string ⟨#[]⟩, .slice none 0 0, .int .i64 0, .int .i64 0, .int .i64 0, .int .i64 0, .int .i64 0, .int .i64 0] (.bool false) _ rfl rfl ?_ Try.underlying30 rfl (by kernel_rfl)
        refine Zx.box ?_
        repeat (first | with_reducible exact Zr.out | with_reducible refine Zx.drewB ?_ | with_reducible apply Zx.put12)
      case hpost =>
        suffices h9 : ∀ w' : World, Touch (fun b => b = w.heap.size) w1 w' → GivesDM none w (.returned (.tuple #[.agg #[.int .i64 0, .int .i64 0, .int .i64 0, .int .i64 0, .string ⟨#[]⟩, .slice none 0 0, .int .i64 0, .int .i64 0, .int .i64 0, .int .i64 0, .int .i64 0, .int .i64 0], .bool false])) w' from h9 _ (by repeat (first | with_reducible exact Touch.refl _ _ | with_reducible refine Touch.drew ?_ | with_reducible refine Touch.put12 ?_ (Eq.refl _)))
        intro w' hT9
        exact GivesDM.zero (HB.out.trans (hT9.below (fun x h => by omega) HB.out.size)))
  · obtain ⟨o', rfl, ho, h10a, h10b, hnl, hnz, -⟩ := numsR_spec hby hN
    have HN := Lib.hid hN
    have hon : o' ≤ n := by omega
    have CALLN : Hid (∀ (wx : World), Below w.heap.size w wx → Calls Try.prog 41 #[.slice A n c] wx (FreshT .i64 3 ns (o' : Int) true wx)) := Lib.hid (fun wx hbx => (implReadN A n c zs _ (H.out.below hbx) HBY.out hn).mono (by
      rintro e w1 ⟨A1, n1, c1, ys, x1, b1, rfl, hO1, hb, hor⟩
      rcases hor with ⟨-, h2⟩ | ⟨h1, h2⟩
      · rw [HN.out] at h2; cases h2
      · rw [HN.out] at h2
        simp only [Option.some.injEq, Prod.mk.injEq] at h2
        obtain ⟨rfl, rfl⟩ := h2
        subst h1
        exact ⟨_, _, _, rfl, hO1, hb⟩))
    rcases hR : readB zs (o' : Int) 6 with _ | ⟨nm, e0⟩
    · rw [decM_nm HN.out hR]
      have CALLR : Hid (∀ (wx : World), Below w.heap.size w wx → Calls Try.prog 42 #[.slice A n c, .int .i64 (o' : Int), .int .i64 6] wx (FreshT .u8 5 [] 0 false wx)) := Lib.hid (fun wx hbx => by
        have k := implReadB A n c zs (o' : Int) 6 wx (H.out.below hbx) hcap HBY.out hn (by omega) (by omega) (by omega) (by omega)
        rw [hR] at k
        exact k)
      clear hR hln hby hnl hnz HN h10a h10b ho
      go_enter Try.func13, Try.ntmps13
      go_wp2_with fail
      refine (CALLN.out _ HB.out).mono ?_
      rintro e w1 ⟨A1, n1, c1, rfl, hO1, hb⟩
      replace Zr := Lib.hid (Zr.out.below hb)
      replace HB : Hid (Below w.heap.size w w1) := Lib.hid (HB.out.trans (hb.mono HB.out.size))
      clear hb
      go_wp2_with fail
      refine (CALLR.out _ HB.out).mono ?_
      rintro e w2 ⟨A2, n2, c2, rfl, hO2, hb⟩
      clear hO1 hO2
      replace Zr := Lib.hid (Zr.out.below hb)
      replace HB : Hid (Below w.heap.size w w2) := Lib.hid (HB.out.trans (hb.mono HB.out.size))
      clear hb
      obtain ⟨z0, z1, z2, z3, z4, z5, z6, z7, z8, z9, z10, z11, fz⟩ := Zr.out.c12
      go_wp2_with (
        with_reducible refine bodyPost_ret (v := .tuple #[.agg #[.int .i64 0, .int .i64 0, .int .i64 0, .int .i64 0, .string ⟨#[]⟩, .slice none 0 0, .int .i64 0, .int .i64 0, .int .i64 0, .int .i64 0, .int .i64 0, .int .i64 0], .bool false]) ?hres rfl ?hpost
        case hres =>
          refine results_box2 rfl _ _ (w.heap.size) [.int .i64 0, .int .i64 0, .int .i64 0, .int .i64 0, .string ⟨#[]⟩, .slice none 0 0, .int .i64 0, .int .i64 0, .int .i64 0, .int .i64 0, .int .i64 0, .int .i64 0] (.bool false) _ rfl rfl ?_ Try.underlying30 rfl (by kernel_rfl)
          refine Zx.box ?_
          repeat (first | with_reducible exact Zr.out | with_reducible refine Zx.drewB ?_ | with_reducible apply Zx.put12)
        case hpost =>
          suffices h9 : ∀ w' : World, Touch (fun b => b = w.heap.size) w2 w' → GivesDM none w (.returned (.tuple #[.agg #[.int .i64 0, .int .i64 0, .int .i64 0, .int .i64 0, .string ⟨#[]⟩, .slice none 0 0, .int .i64 0, .int .i64 0, .int .i64 0, .int .i64 0, .int .i64 0, .int .i64 0], .bool false])) w' from h9 _ (by repeat (first | with_reducible exact Touch.refl _ _ | with_reducible refine Touch.drew ?_ | with_reducible refine Touch.put12 ?_ (Eq.refl _)))
          intro w' hT9
          exact GivesDM.zero (HB.out.trans (hT9.below (fun x h => by omega) HB.out.size)))
    · obtain ⟨hbn, v, k, hru, hnm, he0, hv6, hle⟩ := readB_spec hby hR
      have hnl6 : nm.length ≤ 6 := by rw [hnm, List.length_take]; omega
      have hDA := decM_at HN.out hR
      have CALLR : Hid (∀ (wx : World), Below w.heap.size w wx → Calls Try.prog 42 #[.slice A n c, .int .i64 (o' : Int), .int .i64 6] wx (FreshT .u8 5 nm e0 true wx)) := Lib.hid (fun wx hbx => by
        have k := implReadB A n c zs (o' : Int) 6 wx (H.out.below hbx) hcap HBY.out hn (by omega) (by omega) (by omega) (by omega)
        rw [hR] at k
        exact k)
      by_cases he : e0 = (n : Int)
      · have HBN := Lib.hid hbn
        obtain ⟨J, hJ⟩ : ∃ J, (at0 ns 10).toNat = J := ⟨_, rfl⟩
        have hJ2 : J ≤ 2 := by omega
        have hnJ : ns.length = 11 + 2 * J := by omega
        have hLL : (wiresL (ns.drop 11)).length = J := wiresL_len (ns.drop 11) J (by rw [List.length_drop]; omega)
        have HTW : Hid (∀ d ∈ wiresL (ns.drop 11), Has tyWire d) := Lib.hid (wiresL_has (ns.drop 11) (fun z hz => hnz z (List.mem_of_mem_drop hz)))
        have HMO : Hid (∀ (A : Option Addr) (n c : Nat) (wx : World), Rz .i64 wx A n ns → Calls Try.prog 43 #[.slice A n c, .string (bytesOf nm)] wx (GivesMessage (at0 ns 0) (at0 ns 1) (at0 ns 2) (at0 ns 3) (bytesOf nm) (wiresL (ns.drop 11)) J (at0 ns 8) (at0 ns 9) (at0 ns 4) (at0 ns 5) (at0 ns 6) (at0 ns 7) wx)) := Lib.hid (fun A n c wx hz => implMO A n c ns (bytesOf nm) J wx hz (by rw [← hz.1]; exact hnJ) (by omega))
        obtain ⟨ok, hok⟩ : ∃ ok, okN ns nm = ok := ⟨_, rfl⟩
        have HDD : Hid ((ok = true → decM zs = some (ns, nm)) ∧ (ok = false → decM zs = none)) := Lib.hid (by
          rw [hDA, hok]
          have e2 : e0 = (zs.length : Int) := by omega
          constructor
          · intro h; rw [if_pos ⟨e2, h⟩]
          · intro h; rw [if_neg (fun h2 => by rw [h] at h2; cases h2.2)])
        have hbne : (e0 == (n : Int)) = true := by simpa using he
        have hbne2 : (e0 != (n : Int)) = false := by simp [hbne, bne]
        have HE0 := Lib.hid he
        have e0L := Lib.hid he0
        have HGD : Hid (∀ (wx wy : World) (e : Ending), decM zs = some (ns, nm) → GivesD9 (at0 ns 0) (at0 ns 1) (at0 ns 2) (at0 ns 3) (bytesOf nm) (wiresL (ns.drop 11)) J (at0 ns 8) (at0 ns 9) (at0 ns 4) (at0 ns 5) (at0 ns 6) (at0 ns 7) true wx e wy → GivesDM (decM zs) wx e wy) := Lib.hid (fun wx wy e h1 h2 => by
          rw [h1]
          show GivesD9 _ _ _ _ _ (wiresL (ns.drop 11)) (wiresL (ns.drop 11)).length _ _ _ _ _ _ true wx e wy
          rw [hLL]
          exact h2)
        unfold okN at hok
        clear hR hln hby hnl hnz HN h10a h10b ho hDA hnm hru hnJ hLL hJ he he0 hle hv6
        obtain ⟨s, hs⟩ : ∃ s, bytesOf nm = s := ⟨_, rfl⟩
        have HCV : Hid (∀ (wx : World) (A : Option Addr) (n c : Nat), Rz .u8 wx A n nm → (convert 22 9 (.slice A n c)).run Try.prog wx = .ok (.string s) wx) := Lib.hid (fun wx A n c hz => by rw [← hs]; exact conv wx A n c nm hz HBN.out)
        obtain ⟨L, hL⟩ : ∃ L, wiresL (ns.drop 11) = L := ⟨_, rfl⟩
        rw [hs, hL] at HMO hok HGD
        rw [hL] at HTW
        clear hs hL
        obtain ⟨a0, ha⟩ : ∃ a, at0 ns 0 = a := ⟨_, rfl⟩
        rw [ha] at HMO hok HGD
        clear ha
        obtain ⟨a1, ha⟩ : ∃ a, at0 ns 1 = a := ⟨_, rfl⟩
        rw [ha] at HMO hok HGD
        clear ha
        obtain ⟨a2, ha⟩ : ∃ a, at0 ns 2 = a := ⟨_, rfl⟩
        rw [ha] at HMO hok HGD
        clear ha
        obtain ⟨a3, ha⟩ : ∃ a, at0 ns 3 = a := ⟨_, rfl⟩
        rw [ha] at HMO hok HGD
        clear ha
        obtain ⟨a4, ha⟩ : ∃ a, at0 ns 4 = a := ⟨_, rfl⟩
        rw [ha] at HMO hok HGD
        clear ha
        obtain ⟨a5, ha⟩ : ∃ a, at0 ns 5 = a := ⟨_, rfl⟩
        rw [ha] at HMO hok HGD
        clear ha
        obtain ⟨a6, ha⟩ : ∃ a, at0 ns 6 = a := ⟨_, rfl⟩
        rw [ha] at HMO hok HGD
        clear ha
        obtain ⟨a7, ha⟩ : ∃ a, at0 ns 7 = a := ⟨_, rfl⟩
        rw [ha] at HMO hok HGD
        clear ha
        obtain ⟨a8, ha⟩ : ∃ a, at0 ns 8 = a := ⟨_, rfl⟩
        rw [ha] at HMO hok HGD
        clear ha
        obtain ⟨a9, ha⟩ : ∃ a, at0 ns 9 = a := ⟨_, rfl⟩
        rw [ha] at HMO hok HGD
        clear ha
        have HOK := Lib.hid hok
        clear hok hbn
        go_enter Try.func13, Try.ntmps13
        go_wp2_with fail
        refine (CALLN.out _ HB.out).mono ?_
        rintro e w1 ⟨A1, n1, c1, rfl, hO1, hb⟩
        have Y1 := Lib.hid hO1.rz
        clear hO1
        replace Zr := Lib.hid (Zr.out.below hb)
        replace HB : Hid (Below w.heap.size w w1) := Lib.hid (HB.out.trans (hb.mono HB.out.size))
        clear hb
        go_wp2_with fail
        refine (CALLR.out _ HB.out).mono ?_
        rintro e w2 ⟨A2, n2, c2, rfl, hO2, hb⟩
        have hcv := HCV.out w2 A2 n2 c2 hO2.rz
        clear hO2
        replace Zr := Lib.hid (Zr.out.below hb)
        replace Y1 := Lib.hid (Y1.out.below hb)
        replace HB : Hid (Below w.heap.size w w2) := Lib.hid (HB.out.trans (hb.mono HB.out.size))
        clear hb
        have hlr2 := Zr.out.lt
        go_wp2_with fail
        refine (HMO.out A1 n1 c1 _ Y1.out).mono ?_
        rintro e w3 ⟨B5, k5, rfl, hO5, hb⟩
        have hs2 := HB.out.size
        have hs3 := hb.size
        have H5 := Lib.hid hO5
        clear hO5 hcv
        replace Zr := Lib.hid (Zr.out.below hb)
        replace HB : Hid (Below w.heap.size w w3) := Lib.hid (HB.out.trans (hb.mono HB.out.size))
        clear hb
        have hlr := Zr.out.lt
        have hb : Below w3.heap.size w3 (w3.alloc (.cells #[.int .i64 a0, .int .i64 a1, .int .i64 a2, .int .i64 a3, .string s, .slice B5 J k5, .int .i64 a8, .int .i64 a9, .int .i64 a4, .int .i64 a5, .int .i64 a6, .int .i64 a7] 30)) := (Below.refl _ _).alloc (Nat.le_refl _) _
        have Bm : Hid (Box w3.heap.size [.int .i64 a0, .int .i64 a1, .int .i64 a2, .int .i64 a3, .string s, .slice B5 J k5, .int .i64 a8, .int .i64 a9, .int .i64 a4, .int .i64 a5, .int .i64 a6, .int .i64 a7] (w3.alloc (.cells #[.int .i64 a0, .int .i64 a1, .int .i64 a2, .int .i64 a3, .string s, .slice B5 J k5, .int .i64 a8, .int .i64 a9, .int .i64 a4, .int .i64 a5, .int .i64 a6, .int .i64 a7] 30))) := Lib.hid (Box.new w3 #[.int .i64 a0, .int .i64 a1, .int .i64 a2, .int .i64 a3, .string s, .slice B5 J k5, .int .i64 a8, .int .i64 a9, .int .i64 a4, .int .i64 a5, .int .i64 a6, .int .i64 a7] 30)
        replace H5 := Lib.hid (H5.out.below hb)
        replace Zr := Lib.hid (Zr.out.below hb)
        replace HB : Hid (Below w.heap.size w (w3.alloc (.cells #[.int .i64 a0, .int .i64 a1, .int .i64 a2, .int .i64 a3, .string s, .slice B5 J k5, .int .i64 a8, .int .i64 a9, .int .i64 a4, .int .i64 a5, .int .i64 a6, .int .i64 a7] 30))) := Lib.hid (HB.out.trans (hb.mono HB.out.size))
        clear hb
        go_wp2_with fail
        refine (implIsMsg a0 a1 a2 a3 s L B5 J k5 a8 a9 a4 a5 a6 a7 _ H5.out.lies HTW.out (by omega)).mono ?_
        rintro e w4 ⟨rfl, hb⟩
        have hs4 : w3.heap.size ≤ w4.heap.size := by have h1 := hb.size; simp at h1; omega
        rw [HOK.out]
        replace Zr := Lib.hid (Zr.out.below hb)
        replace H5 := Lib.hid (H5.out.below hb)
        replace Bm := Lib.hid (Bm.out.below hb)
        replace HB : Hid (Below w.heap.size w w4) := Lib.hid (HB.out.trans (hb.mono HB.out.size))
        clear hb
        obtain ⟨z0, z1, z2, z3, z4, z5, z6, z7, z8, z9, z10, z11, fz⟩ := Zr.out.c12
        obtain ⟨y0, y1, y2, y3, y4, y5, y6, y7, y8, y9, y10, y11⟩ := Bm.out.c12
        cases ok with
        | false =>
          go_wp2_with (
            with_reducible refine bodyPost_ret (v := .tuple #[.agg #[.int .i64 0, .int .i64 0, .int .i64 0, .int .i64 0, .string ⟨#[]⟩, .slice none 0 0, .int .i64 0, .int .i64 0, .int .i64 0, .int .i64 0, .int .i64 0, .int .i64 0], .bool false]) ?hres rfl ?hpost
            case hres =>
              refine results_box2 rfl _ _ (w.heap.size) [.int .i64 0, .int .i64 0, .int .i64 0, .int .i64 0, .string ⟨#[]⟩, .slice none 0 0, .int .i64 0, .int .i64 0, .int .i64 0, .int .i64 0, .int .i64 0, .int .i64 0] (.bool false) _ rfl rfl ?_ Try.underlying30 rfl (by kernel_rfl)
              refine Zx.box ?_
              repeat (first | with_reducible exact Zr.out | with_reducible refine Zx.drewB ?_ | with_reducible apply Zx.put12)
            case hpost =>
              suffices h9 : ∀ w' : World, Touch (fun b => b = w.heap.size) w4 w' → GivesDM (decM zs) w (.returned (.tuple #[.agg #[.int .i64 0, .int .i64 0, .int .i64 0, .int .i64 0, .string ⟨#[]⟩, .slice none 0 0, .int .i64 0, .int .i64 0, .int .i64 0, .int .i64 0, .int .i64 0, .int .i64 0], .bool false])) w' from h9 _ (by repeat (first | with_reducible exact Touch.refl _ _ | with_reducible refine Touch.drew ?_ | with_reducible refine Touch.put12 ?_ (Eq.refl _)))
              intro w' hT9
              rw [HDD.out.2 (by first | rfl | trivial)]; exact GivesDM.zero (HB.out.trans (hT9.below (fun x h => by omega) HB.out.size)))
        | true =>
          go_wp2_with (
            with_reducible refine bodyPost_ret (v := .tuple #[.agg #[.int .i64 a0, .int .i64 a1, .int .i64 a2, .int .i64 a3, .string s, .slice B5 J k5, .int .i64 a8, .int .i64 a9, .int .i64 a4, .int .i64 a5, .int .i64 a6, .int .i64 a7], .bool true]) ?hres rfl ?hpost
            case hres =>
              refine results_box2 rfl _ _ (w.heap.size) [.int .i64 a0, .int .i64 a1, .int .i64 a2, .int .i64 a3, .string s, .slice B5 J k5, .int .i64 a8, .int .i64 a9, .int .i64 a4, .int .i64 a5, .int .i64 a6, .int .i64 a7] (.bool true) _ rfl rfl ?_ Try.underlying30 rfl (by kernel_rfl)
              refine Zx.box ?_
              repeat (first | with_reducible exact Zr.out | with_reducible refine Zx.drewB ?_ | with_reducible apply Zx.put12)
            case hpost =>
              suffices h9 : ∀ w' : World, Touch (fun b => b = w.heap.size) w4 w' → GivesDM (decM zs) w (.returned (.tuple #[.agg #[.int .i64 a0, .int .i64 a1, .int .i64 a2, .int .i64 a3, .string s, .slice B5 J k5, .int .i64 a8, .int .i64 a9, .int .i64 a4, .int .i64 a5, .int .i64 a6, .int .i64 a7], .bool true])) w' from h9 _ (by repeat (first | with_reducible exact Touch.refl _ _ | with_reducible refine Touch.drew ?_ | with_reducible refine Touch.put12 ?_ (Eq.refl _)))
              intro w' hT9
              exact HGD.out w w' _ (HDD.out.1 (by first | rfl | trivial)) ⟨B5, k5, rfl, (H5.out.touch hT9 (fun x hx h => by have h1 : w2.heap.size ≤ x := hx.1; omega)).mono (fun x hx => ⟨by have h1 : w2.heap.size ≤ x := hx.1; omega, by have h1 : x < w3.heap.size := hx.2; have h2 := hT9.size; omega⟩), HB.out.trans (hT9.below (fun x h => by omega) HB.out.size)⟩)
      · rw [hDA, if_neg (fun h2 => he (by have h1 := h2.1; omega))]
        have hbne : (e0 == (n : Int)) = false := by simpa using he
        have hbne2 : (e0 != (n : Int)) = true := by simp [hbne, bne]
        have HE := Lib.hid he
        clear hR hln hby hnl hnz HN h10a h10b ho hDA hnm hru he0 hle hv6 hbn he
        go_enter Try.func13, Try.ntmps13
        go_wp2_with fail
        refine (CALLN.out _ HB.out).mono ?_
        rintro e w1 ⟨A1, n1, c1, rfl, hO1, hb⟩
        replace Zr := Lib.hid (Zr.out.below hb)
        replace HB : Hid (Below w.heap.size w w1) := Lib.hid (HB.out.trans (hb.mono HB.out.size))
        clear hb
        go_wp2_with fail
        refine (CALLR.out _ HB.out).mono ?_
        rintro e w2 ⟨A2, n2, c2, rfl, hO2, hb⟩
        clear hO1 hO2
        replace Zr := Lib.hid (Zr.out.below hb)
        replace HB : Hid (Below w.heap.size w w2) := Lib.hid (HB.out.trans (hb.mono HB.out.size))
        clear hb
        obtain ⟨z0, z1, z2, z3, z4, z5, z6, z7, z8, z9, z10, z11, fz⟩ := Zr.out.c12
        go_wp2_with (
          with_reducible refine bodyPost_ret (v := .tuple #[.agg #[.int .i64 0, .int .i64 0, .int .i64 0, .int .i64 0, .string ⟨#[]⟩, .slice none 0 0, .int .i64 0, .int .i64 0, .int .i64 0, .int .i64 0, .int .i64 0, .int .i64 0], .bool false]) ?hres rfl ?hpost
          case hres =>
            refine results_box2 rfl _ _ (w.heap.size) [.int .i64 0, .int .i64 0, .int .i64 0, .int .i64 0, .string ⟨#[]⟩, .slice none 0 0, .int .i64 0, .int .i64 0, .int .i64 0, .int .i64 0, .int .i64 0, .int .i64 0] (.bool false) _ rfl rfl ?_ Try.underlying30 rfl (by kernel_rfl)
            refine Zx.box ?_
            repeat (first | with_reducible exact Zr.out | with_reducible refine Zx.drewB ?_ | with_reducible apply Zx.put12)
          case hpost =>
            suffices h9 : ∀ w' : World, Touch (fun b => b = w.heap.size) w2 w' → GivesDM none w (.returned (.tuple #[.agg #[.int .i64 0, .int .i64 0, .int .i64 0, .int .i64 0, .string ⟨#[]⟩, .slice none 0 0, .int .i64 0, .int .i64 0, .int .i64 0, .int .i64 0, .int .i64 0, .int .i64 0], .bool false])) w' from h9 _ (by repeat (first | with_reducible exact Touch.refl _ _ | with_reducible refine Touch.drew ?_ | with_reducible refine Touch.put12 ?_ (Eq.refl _)))
            intro w' hT9
            exact GivesDM.zero (HB.out.trans (hT9.below (fun x h => by omega) HB.out.size)))
end Go.Proofs.Ytchofnligbgigaa
