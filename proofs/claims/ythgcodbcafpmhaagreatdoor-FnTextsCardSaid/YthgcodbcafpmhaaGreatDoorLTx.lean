/- FnTexts: what is formatted is read back, and what is read formats to the text that was read. -/
import Derived.Test.YthgcodbcafpmhaaGreatDoorLPL
import Derived.Test.YthgcodbcafpmhaaGreatDoorDraw6D
import Derived.Test.YthgcodbcafpmhaaGreatDoorTxD
import Derived.Test.YthgcodbcafpmhaaGreatDoorCntZ
namespace Go.Proofs.YthgcodbcafpmhaaGreatDoor
open Go.RowKit
set_option linter.unusedVariables false
set_option linter.unusedSimpArgs false
set_option maxRecDepth 100000 in
set_option maxHeartbeats 40000000 in
theorem law_Texts (A : Option Addr) (n c : Nat) (W : World) (hC : Code W A n) (hV : Vars W) : Calls Tryz.prog 3 #[.slice A n c] W (GivesBool true W) := by
  have HC := Lib.hid hC
  have HV := Lib.hid hV
  clear hC hV
  by_cases hn : n ≤ 1048576
  · go_enter Tryz.func3, Tryz.ntmps3
    go_wp2_with fail
    refine (big_no A n c _ hn).mono ?_
    rintro e w' ⟨rfl, rfl⟩
    go_wp2_with fail
    refine (drawLib A n c _ HC.out hn).mono ?_
    rintro e w1 ⟨L0, A1, n1, c1, rfl, hl, hP, hb⟩
    obtain ⟨M, rfl⟩ := map_of (f := datS) (fun x hx => has_datS ((hP.2 x hx).1))
    have X := Lib.hid (((St.start W).below hb).lie hl)
    have hcn := hl.count
    have hn1 : n1 ≤ 7 := by have := hP.1; omega
    have HT : Hid (∀ x ∈ M.map datS, Has tyScript x) := Lib.hid (fun x hx => (hP.2 x hx).1)
    have hq := hP.bulk (by omega)
    have HQB := Lib.hid hq
    clear hl hP hb hq
    go_wp2_with fail
    refine (implFrmL M A1 n1 c1 _ (X.out.lies (d := .l (M.map datS)) (cs := [.slice A1 n1 c1]) (by repeat (first | exact List.mem_cons_self | refine List.mem_cons_of_mem _ ?_))) HT.out (by omega) (HV.out.below X.out.low).pow).mono ?_
    rintro e w2 ⟨rfl, hb⟩
    replace X := Lib.hid (X.out.below hb)
    clear hb
    have hsz : (strB (fmtL M)).size ≤ 30492 := by
      have h1 := fmtL_short M
      show (fmtL M).toArray.size ≤ _
      rw [List.size_toArray]; exact h1
    obtain ⟨s, hs⟩ : ∃ s, strB (fmtL M) = s := ⟨_, rfl⟩
    have hsd : fmtL M = s.data.toList := by rw [← hs]; rfl
    rw [hs] at hsz ⊢
    have HS := Lib.hid hs
    have HSD := Lib.hid hsd
    clear hs hsd
    obtain ⟨D3, hD3⟩ : ∃ D, ((parseL s.data.toList).getD []).map datS = D := ⟨_, rfl⟩
    obtain ⟨v3, hv3⟩ : ∃ v, (parseL s.data.toList).isSome = v := ⟨_, rfl⟩
    have HD3 := Lib.hid hD3
    have HV3 := Lib.hid hv3
    clear hD3 hv3
    obtain ⟨v, hv⟩ : ∃ v, okL M = v := ⟨_, rfl⟩
    have HVV := Lib.hid hv
    have HIL : Hid (isLib (M.map datS) = v) := Lib.hid ((isLib_dat M).trans hv)
    clear hv
    go_wp2_with fail
    refine (implPLV s D3 v3 _ (by omega) (HV.out.below X.out.low) HD3.out HV3.out).mono ?_
    rintro e w3 ⟨A3, n3, c3, rfl, hO, hb⟩
    have hcn3 := hO.lies.count
    replace X := Lib.hid ((X.out.below hb).lie hO.lies)
    clear hO hb
    go_wp2_with fail
    refine (specLib (M.map datS) A1 n1 c1 _ (X.out.lies (d := .l (M.map datS)) (cs := [.slice A1 n1 c1]) (by repeat (first | exact List.mem_cons_self | refine List.mem_cons_of_mem _ ?_))) HT.out (by have := HQB.out; omega)).mono ?_
    rintro e w4 ⟨rfl, hb⟩
    rw [HIL.out]
    replace X := Lib.hid (X.out.below hb)
    clear hb
    rcases v with _ | _
    · go_wp2_with fail
      refine (drawPL A n c _ (HC.out.low7 X.out.low) hn).mono ?_
      rintro e w5 ⟨t, ht, rfl, hb⟩
      replace X := Lib.hid (X.out.below hb)
      clear hb
      have htt : t.toList == t.toList := by simp
      rcases hp : parseL t.data.toList with _ | N
      · have HP := Lib.hid hp
        clear hp
        go_wp2_with fail
        refine (implPLV t [] false _ (by omega) (HV.out.below X.out.low) (by rw [HP.out]; rfl) (by rw [HP.out]; rfl)).mono ?_
        rintro e w6 ⟨A6, n6, c6, rfl, hO, hb⟩
        replace X := Lib.hid (X.out.below hb)
        clear hO hb
        go_wp2_with fail
        refine (specPLV t [] false _ (by omega) (by rw [HP.out]; rfl) (by rw [HP.out]; rfl)).mono ?_
        rintro e w7 ⟨A7, n7, c7, rfl, hO, hb⟩
        replace X := Lib.hid (X.out.below hb)
        clear hO hb
        go_wp2_with fail
        refine (drawPI A n c _ (HC.out.low7 X.out.low) hn).mono ?_
        rintro e w8 ⟨u, hu, rfl, hb⟩
        replace X := Lib.hid (X.out.below hb)
        clear hb
        rcases hq : parseI u.data.toList with _ | ⟨op, a, b, c', d, nm⟩
        · have HQ := Lib.hid hq
          clear hq
          go_wp2_with fail
          refine (implPrsN u _ (by omega) (HV.out.below X.out.low) HQ.out).mono ?_
          rintro e w9 ⟨rfl, hb⟩
          replace X := Lib.hid ((X.out.below hb).push #[.int .i64 0, .int .i64 0, .int .i64 0, .int .i64 0, .int .i64 0, .string ⟨#[]⟩] 32)
          clear hb
          go_wp2_with fail
          refine (implLines t _).mono ?_
          rintro e w' ⟨rfl, rfl⟩
          go_wp2_with fail
          refine (specLines t _ (by omega)).mono ?_
          rintro e w' ⟨rfl, rfl⟩
          go_wp2_with fail
          go_ret
          exact GivesBool.ret X.out.low
        · have HUX : Hid ((⟨(fmtI ⟨op, a, b, c', d, nm⟩).toArray⟩ : ByteArray) = u) := Lib.hid (by rw [(parse_iff.1 hq).2])
          have huu : u.toList == u.toList := by simp
          have HQ := Lib.hid hq
          clear hq
          go_wp2_with fail
          refine (implPrsS u op a b c' d nm _ (by omega) (HV.out.below X.out.low) HQ.out).mono ?_
          rintro e w9 ⟨rfl, hb⟩
          replace X := Lib.hid ((X.out.below hb).push #[.int .i64 op, .int .i64 a, .int .i64 b, .int .i64 c', .int .i64 d, .string nm] 32)
          clear hb
          have BX : ∀ j v, ([.int .i64 op, .int .i64 a, .int .i64 b, .int .i64 c', .int .i64 d, .string nm] : List Value)[j]? = some v → _ := fun j v h => X.out.1.at_ (g := w9.heap.size) (cs := [.int .i64 op, .int .i64 a, .int .i64 b, .int .i64 c', .int .i64 d, .string nm]) (by repeat (first | exact List.mem_cons_self | refine List.mem_cons_of_mem _ ?_)) h
          obtain ⟨p0, p1, p2, p3, p4, p5⟩ := And.intro (BX 0 _ rfl) (And.intro (BX 1 _ rfl) (And.intro (BX 2 _ rfl) (And.intro (BX 3 _ rfl) (And.intro (BX 4 _ rfl) (BX 5 _ rfl)))))
          clear BX
          go_wp2_with fail
          refine (implFmt ⟨op, a, b, c', d, nm⟩ _ (HV.out.below X.out.low).pow).mono ?_
          rintro e w12 ⟨rfl, hb⟩
          rw [HUX.out]
          replace X := Lib.hid (X.out.below hb)
          clear hb
          clear p0 p1 p2 p3 p4 p5
          go_wp2_with fail
          refine (implLines t _).mono ?_
          rintro e w' ⟨rfl, rfl⟩
          go_wp2_with fail
          refine (specLines t _ (by omega)).mono ?_
          rintro e w' ⟨rfl, rfl⟩
          go_wp2_with fail
          go_ret
          exact GivesBool.ret X.out.low
      · have hpf := parse_facts t.data.toList
        rw [hp] at hpf
        have HTN : Hid (∀ x ∈ N.map datS, Has tyScript x) := Lib.hid hpf.2.1
        have hnl : N.length ≤ 5000 := hpf.1.1
        clear hpf
        have HTX : Hid (strB (fmtL N) = t) := Lib.hid (by rw [(parseL_iff.1 hp).2.2]; rfl)
        have HIN : Hid (isLib (N.map datS) = true) := Lib.hid ((isLib_dat N).trans (parseL_iff.1 hp).2.1)
        have HP := Lib.hid hp
        clear hp
        go_wp2_with fail
        refine (implPLV t (N.map datS) true _ (by omega) (HV.out.below X.out.low) (by rw [HP.out]; rfl) (by rw [HP.out]; rfl)).mono ?_
        rintro e w6 ⟨A6, n6, c6, rfl, hO, hb⟩
        have hn6 : n6 ≤ 5000 := by have h1 := hO.lies.count; rw [List.length_map] at h1; omega
        replace X := Lib.hid ((X.out.below hb).lie hO.lies)
        clear hO hb
        go_wp2_with fail
        refine (specPLV t (N.map datS) true _ (by omega) (by rw [HP.out]; rfl) (by rw [HP.out]; rfl)).mono ?_
        rintro e w7 ⟨A7, n7, c7, rfl, hO, hb⟩
        replace X := Lib.hid (X.out.below hb)
        clear hO hb
        go_wp2_with fail
        refine (drawPI A n c _ (HC.out.low7 X.out.low) hn).mono ?_
        rintro e w8 ⟨u, hu, rfl, hb⟩
        replace X := Lib.hid (X.out.below hb)
        clear hb
        rcases hq : parseI u.data.toList with _ | ⟨op, a, b, c', d, nm⟩
        · have HQ := Lib.hid hq
          clear hq
          go_wp2_with fail
          refine (implPrsN u _ (by omega) (HV.out.below X.out.low) HQ.out).mono ?_
          rintro e w9 ⟨rfl, hb⟩
          replace X := Lib.hid ((X.out.below hb).push #[.int .i64 0, .int .i64 0, .int .i64 0, .int .i64 0, .int .i64 0, .string ⟨#[]⟩] 32)
          clear hb
          go_wp2_with fail
          refine (implFrmL N A6 n6 c6 _ (X.out.lies (d := .l (N.map datS)) (cs := [.slice A6 n6 c6]) (by repeat (first | exact List.mem_cons_self | refine List.mem_cons_of_mem _ ?_))) HTN.out (by omega) (HV.out.below X.out.low).pow).mono ?_
          rintro e w10 ⟨rfl, hb⟩
          rw [HTX.out]
          replace X := Lib.hid (X.out.below hb)
          clear hb
          go_wp2_with fail
          refine (implLib (N.map datS) A6 n6 c6 _ (X.out.lies (d := .l (N.map datS)) (cs := [.slice A6 n6 c6]) (by repeat (first | exact List.mem_cons_self | refine List.mem_cons_of_mem _ ?_))) HTN.out (by omega)).mono ?_
          rintro e w11 ⟨rfl, hb⟩
          rw [HIN.out]
          replace X := Lib.hid (X.out.below hb)
          clear hb
          go_wp2_with fail
          refine (implLines t _).mono ?_
          rintro e w' ⟨rfl, rfl⟩
          go_wp2_with fail
          refine (specLines t _ (by omega)).mono ?_
          rintro e w' ⟨rfl, rfl⟩
          go_wp2_with fail
          go_ret
          exact GivesBool.ret X.out.low
        · have HUX : Hid ((⟨(fmtI ⟨op, a, b, c', d, nm⟩).toArray⟩ : ByteArray) = u) := Lib.hid (by rw [(parse_iff.1 hq).2])
          have huu : u.toList == u.toList := by simp
          have HQ := Lib.hid hq
          clear hq
          go_wp2_with fail
          refine (implPrsS u op a b c' d nm _ (by omega) (HV.out.below X.out.low) HQ.out).mono ?_
          rintro e w9 ⟨rfl, hb⟩
          replace X := Lib.hid ((X.out.below hb).push #[.int .i64 op, .int .i64 a, .int .i64 b, .int .i64 c', .int .i64 d, .string nm] 32)
          clear hb
          go_wp2_with fail
          refine (implFrmL N A6 n6 c6 _ (X.out.lies (d := .l (N.map datS)) (cs := [.slice A6 n6 c6]) (by repeat (first | exact List.mem_cons_self | refine List.mem_cons_of_mem _ ?_))) HTN.out (by omega) (HV.out.below X.out.low).pow).mono ?_
          rintro e w10 ⟨rfl, hb⟩
          rw [HTX.out]
          replace X := Lib.hid (X.out.below hb)
          clear hb
          go_wp2_with fail
          refine (implLib (N.map datS) A6 n6 c6 _ (X.out.lies (d := .l (N.map datS)) (cs := [.slice A6 n6 c6]) (by repeat (first | exact List.mem_cons_self | refine List.mem_cons_of_mem _ ?_))) HTN.out (by omega)).mono ?_
          rintro e w11 ⟨rfl, hb⟩
          rw [HIN.out]
          replace X := Lib.hid (X.out.below hb)
          clear hb
          have BX : ∀ j v, ([.int .i64 op, .int .i64 a, .int .i64 b, .int .i64 c', .int .i64 d, .string nm] : List Value)[j]? = some v → _ := fun j v h => X.out.1.at_ (g := w9.heap.size) (cs := [.int .i64 op, .int .i64 a, .int .i64 b, .int .i64 c', .int .i64 d, .string nm]) (by repeat (first | exact List.mem_cons_self | refine List.mem_cons_of_mem _ ?_)) h
          obtain ⟨p0, p1, p2, p3, p4, p5⟩ := And.intro (BX 0 _ rfl) (And.intro (BX 1 _ rfl) (And.intro (BX 2 _ rfl) (And.intro (BX 3 _ rfl) (And.intro (BX 4 _ rfl) (BX 5 _ rfl)))))
          clear BX
          go_wp2_with fail
          refine (implFmt ⟨op, a, b, c', d, nm⟩ _ (HV.out.below X.out.low).pow).mono ?_
          rintro e w12 ⟨rfl, hb⟩
          rw [HUX.out]
          replace X := Lib.hid (X.out.below hb)
          clear hb
          clear p0 p1 p2 p3 p4 p5
          go_wp2_with fail
          refine (implLines t _).mono ?_
          rintro e w' ⟨rfl, rfl⟩
          go_wp2_with fail
          refine (specLines t _ (by omega)).mono ?_
          rintro e w' ⟨rfl, rfl⟩
          go_wp2_with fail
          go_ret
          exact GivesBool.ret X.out.low
    · by_cases hlen : s.size ≤ 4000
      · have hpm : parseL s.data.toList = some M := parseL_iff.2 ⟨hlen, HVV.out, HSD.out⟩
        have hd := HD3.out
        have hv := HV3.out
        rw [hpm] at hd hv
        obtain rfl : M.map datS = D3 := hd
        obtain rfl : true = v3 := hv
        obtain rfl : n1 = n3 := by omega
        have hss : (s.toList != s.toList) = false := by simp
        clear hpm
        go_wp2_with fail
        refine (implFrmL M A3 n1 c3 _ (X.out.lies (d := .l (M.map datS)) (cs := [.slice A3 n1 c3]) (by repeat (first | exact List.mem_cons_self | refine List.mem_cons_of_mem _ ?_))) HT.out (by omega) (HV.out.below X.out.low).pow).mono ?_
        rintro e w4b ⟨rfl, hb⟩
        rw [HS.out]
        replace X := Lib.hid (X.out.below hb)
        clear hb
        go_wp2_with fail
        refine (drawPL A n c _ (HC.out.low7 X.out.low) hn).mono ?_
        rintro e w5 ⟨t, ht, rfl, hb⟩
        replace X := Lib.hid (X.out.below hb)
        clear hb
        have htt : t.toList == t.toList := by simp
        rcases hp : parseL t.data.toList with _ | N
        · have HP := Lib.hid hp
          clear hp
          go_wp2_with fail
          refine (implPLV t [] false _ (by omega) (HV.out.below X.out.low) (by rw [HP.out]; rfl) (by rw [HP.out]; rfl)).mono ?_
          rintro e w6 ⟨A6, n6, c6, rfl, hO, hb⟩
          replace X := Lib.hid (X.out.below hb)
          clear hO hb
          go_wp2_with fail
          refine (specPLV t [] false _ (by omega) (by rw [HP.out]; rfl) (by rw [HP.out]; rfl)).mono ?_
          rintro e w7 ⟨A7, n7, c7, rfl, hO, hb⟩
          replace X := Lib.hid (X.out.below hb)
          clear hO hb
          go_wp2_with fail
          refine (drawPI A n c _ (HC.out.low7 X.out.low) hn).mono ?_
          rintro e w8 ⟨u, hu, rfl, hb⟩
          replace X := Lib.hid (X.out.below hb)
          clear hb
          rcases hq : parseI u.data.toList with _ | ⟨op, a, b, c', d, nm⟩
          · have HQ := Lib.hid hq
            clear hq
            go_wp2_with fail
            refine (implPrsN u _ (by omega) (HV.out.below X.out.low) HQ.out).mono ?_
            rintro e w9 ⟨rfl, hb⟩
            replace X := Lib.hid ((X.out.below hb).push #[.int .i64 0, .int .i64 0, .int .i64 0, .int .i64 0, .int .i64 0, .string ⟨#[]⟩] 32)
            clear hb
            go_wp2_with fail
            refine (implLines t _).mono ?_
            rintro e w' ⟨rfl, rfl⟩
            go_wp2_with fail
            refine (specLines t _ (by omega)).mono ?_
            rintro e w' ⟨rfl, rfl⟩
            go_wp2_with fail
            go_ret
            exact GivesBool.ret X.out.low
          · have HUX : Hid ((⟨(fmtI ⟨op, a, b, c', d, nm⟩).toArray⟩ : ByteArray) = u) := Lib.hid (by rw [(parse_iff.1 hq).2])
            have huu : u.toList == u.toList := by simp
            have HQ := Lib.hid hq
            clear hq
            go_wp2_with fail
            refine (implPrsS u op a b c' d nm _ (by omega) (HV.out.below X.out.low) HQ.out).mono ?_
            rintro e w9 ⟨rfl, hb⟩
            replace X := Lib.hid ((X.out.below hb).push #[.int .i64 op, .int .i64 a, .int .i64 b, .int .i64 c', .int .i64 d, .string nm] 32)
            clear hb
            have BX : ∀ j v, ([.int .i64 op, .int .i64 a, .int .i64 b, .int .i64 c', .int .i64 d, .string nm] : List Value)[j]? = some v → _ := fun j v h => X.out.1.at_ (g := w9.heap.size) (cs := [.int .i64 op, .int .i64 a, .int .i64 b, .int .i64 c', .int .i64 d, .string nm]) (by repeat (first | exact List.mem_cons_self | refine List.mem_cons_of_mem _ ?_)) h
            obtain ⟨p0, p1, p2, p3, p4, p5⟩ := And.intro (BX 0 _ rfl) (And.intro (BX 1 _ rfl) (And.intro (BX 2 _ rfl) (And.intro (BX 3 _ rfl) (And.intro (BX 4 _ rfl) (BX 5 _ rfl)))))
            clear BX
            go_wp2_with fail
            refine (implFmt ⟨op, a, b, c', d, nm⟩ _ (HV.out.below X.out.low).pow).mono ?_
            rintro e w12 ⟨rfl, hb⟩
            rw [HUX.out]
            replace X := Lib.hid (X.out.below hb)
            clear hb
            clear p0 p1 p2 p3 p4 p5
            go_wp2_with fail
            refine (implLines t _).mono ?_
            rintro e w' ⟨rfl, rfl⟩
            go_wp2_with fail
            refine (specLines t _ (by omega)).mono ?_
            rintro e w' ⟨rfl, rfl⟩
            go_wp2_with fail
            go_ret
            exact GivesBool.ret X.out.low
        · have hpf := parse_facts t.data.toList
          rw [hp] at hpf
          have HTN : Hid (∀ x ∈ N.map datS, Has tyScript x) := Lib.hid hpf.2.1
          have hnl : N.length ≤ 5000 := hpf.1.1
          clear hpf
          have HTX : Hid (strB (fmtL N) = t) := Lib.hid (by rw [(parseL_iff.1 hp).2.2]; rfl)
          have HIN : Hid (isLib (N.map datS) = true) := Lib.hid ((isLib_dat N).trans (parseL_iff.1 hp).2.1)
          have HP := Lib.hid hp
          clear hp
          go_wp2_with fail
          refine (implPLV t (N.map datS) true _ (by omega) (HV.out.below X.out.low) (by rw [HP.out]; rfl) (by rw [HP.out]; rfl)).mono ?_
          rintro e w6 ⟨A6, n6, c6, rfl, hO, hb⟩
          have hn6 : n6 ≤ 5000 := by have h1 := hO.lies.count; rw [List.length_map] at h1; omega
          replace X := Lib.hid ((X.out.below hb).lie hO.lies)
          clear hO hb
          go_wp2_with fail
          refine (specPLV t (N.map datS) true _ (by omega) (by rw [HP.out]; rfl) (by rw [HP.out]; rfl)).mono ?_
          rintro e w7 ⟨A7, n7, c7, rfl, hO, hb⟩
          replace X := Lib.hid (X.out.below hb)
          clear hO hb
          go_wp2_with fail
          refine (drawPI A n c _ (HC.out.low7 X.out.low) hn).mono ?_
          rintro e w8 ⟨u, hu, rfl, hb⟩
          replace X := Lib.hid (X.out.below hb)
          clear hb
          rcases hq : parseI u.data.toList with _ | ⟨op, a, b, c', d, nm⟩
          · have HQ := Lib.hid hq
            clear hq
            go_wp2_with fail
            refine (implPrsN u _ (by omega) (HV.out.below X.out.low) HQ.out).mono ?_
            rintro e w9 ⟨rfl, hb⟩
            replace X := Lib.hid ((X.out.below hb).push #[.int .i64 0, .int .i64 0, .int .i64 0, .int .i64 0, .int .i64 0, .string ⟨#[]⟩] 32)
            clear hb
            go_wp2_with fail
            refine (implFrmL N A6 n6 c6 _ (X.out.lies (d := .l (N.map datS)) (cs := [.slice A6 n6 c6]) (by repeat (first | exact List.mem_cons_self | refine List.mem_cons_of_mem _ ?_))) HTN.out (by omega) (HV.out.below X.out.low).pow).mono ?_
            rintro e w10 ⟨rfl, hb⟩
            rw [HTX.out]
            replace X := Lib.hid (X.out.below hb)
            clear hb
            go_wp2_with fail
            refine (implLib (N.map datS) A6 n6 c6 _ (X.out.lies (d := .l (N.map datS)) (cs := [.slice A6 n6 c6]) (by repeat (first | exact List.mem_cons_self | refine List.mem_cons_of_mem _ ?_))) HTN.out (by omega)).mono ?_
            rintro e w11 ⟨rfl, hb⟩
            rw [HIN.out]
            replace X := Lib.hid (X.out.below hb)
            clear hb
            go_wp2_with fail
            refine (implLines t _).mono ?_
            rintro e w' ⟨rfl, rfl⟩
            go_wp2_with fail
            refine (specLines t _ (by omega)).mono ?_
            rintro e w' ⟨rfl, rfl⟩
            go_wp2_with fail
            go_ret
            exact GivesBool.ret X.out.low
          · have HUX : Hid ((⟨(fmtI ⟨op, a, b, c', d, nm⟩).toArray⟩ : ByteArray) = u) := Lib.hid (by rw [(parse_iff.1 hq).2])
            have huu : u.toList == u.toList := by simp
            have HQ := Lib.hid hq
            clear hq
            go_wp2_with fail
            refine (implPrsS u op a b c' d nm _ (by omega) (HV.out.below X.out.low) HQ.out).mono ?_
            rintro e w9 ⟨rfl, hb⟩
            replace X := Lib.hid ((X.out.below hb).push #[.int .i64 op, .int .i64 a, .int .i64 b, .int .i64 c', .int .i64 d, .string nm] 32)
            clear hb
            go_wp2_with fail
            refine (implFrmL N A6 n6 c6 _ (X.out.lies (d := .l (N.map datS)) (cs := [.slice A6 n6 c6]) (by repeat (first | exact List.mem_cons_self | refine List.mem_cons_of_mem _ ?_))) HTN.out (by omega) (HV.out.below X.out.low).pow).mono ?_
            rintro e w10 ⟨rfl, hb⟩
            rw [HTX.out]
            replace X := Lib.hid (X.out.below hb)
            clear hb
            go_wp2_with fail
            refine (implLib (N.map datS) A6 n6 c6 _ (X.out.lies (d := .l (N.map datS)) (cs := [.slice A6 n6 c6]) (by repeat (first | exact List.mem_cons_self | refine List.mem_cons_of_mem _ ?_))) HTN.out (by omega)).mono ?_
            rintro e w11 ⟨rfl, hb⟩
            rw [HIN.out]
            replace X := Lib.hid (X.out.below hb)
            clear hb
            have BX : ∀ j v, ([.int .i64 op, .int .i64 a, .int .i64 b, .int .i64 c', .int .i64 d, .string nm] : List Value)[j]? = some v → _ := fun j v h => X.out.1.at_ (g := w9.heap.size) (cs := [.int .i64 op, .int .i64 a, .int .i64 b, .int .i64 c', .int .i64 d, .string nm]) (by repeat (first | exact List.mem_cons_self | refine List.mem_cons_of_mem _ ?_)) h
            obtain ⟨p0, p1, p2, p3, p4, p5⟩ := And.intro (BX 0 _ rfl) (And.intro (BX 1 _ rfl) (And.intro (BX 2 _ rfl) (And.intro (BX 3 _ rfl) (And.intro (BX 4 _ rfl) (BX 5 _ rfl)))))
            clear BX
            go_wp2_with fail
            refine (implFmt ⟨op, a, b, c', d, nm⟩ _ (HV.out.below X.out.low).pow).mono ?_
            rintro e w12 ⟨rfl, hb⟩
            rw [HUX.out]
            replace X := Lib.hid (X.out.below hb)
            clear hb
            clear p0 p1 p2 p3 p4 p5
            go_wp2_with fail
            refine (implLines t _).mono ?_
            rintro e w' ⟨rfl, rfl⟩
            go_wp2_with fail
            refine (specLines t _ (by omega)).mono ?_
            rintro e w' ⟨rfl, rfl⟩
            go_wp2_with fail
            go_ret
            exact GivesBool.ret X.out.low
      · have hlen' : ¬ (s.size : Int) ≤ 4000 := by omega
        have hlen2 : decide ((s.size : Int) ≤ 4000) = false := by simp; omega
        go_wp2_with fail
        refine (drawPL A n c _ (HC.out.low7 X.out.low) hn).mono ?_
        rintro e w5 ⟨t, ht, rfl, hb⟩
        replace X := Lib.hid (X.out.below hb)
        clear hb
        have htt : t.toList == t.toList := by simp
        rcases hp : parseL t.data.toList with _ | N
        · have HP := Lib.hid hp
          clear hp
          go_wp2_with fail
          refine (implPLV t [] false _ (by omega) (HV.out.below X.out.low) (by rw [HP.out]; rfl) (by rw [HP.out]; rfl)).mono ?_
          rintro e w6 ⟨A6, n6, c6, rfl, hO, hb⟩
          replace X := Lib.hid (X.out.below hb)
          clear hO hb
          go_wp2_with fail
          refine (specPLV t [] false _ (by omega) (by rw [HP.out]; rfl) (by rw [HP.out]; rfl)).mono ?_
          rintro e w7 ⟨A7, n7, c7, rfl, hO, hb⟩
          replace X := Lib.hid (X.out.below hb)
          clear hO hb
          go_wp2_with fail
          refine (drawPI A n c _ (HC.out.low7 X.out.low) hn).mono ?_
          rintro e w8 ⟨u, hu, rfl, hb⟩
          replace X := Lib.hid (X.out.below hb)
          clear hb
          rcases hq : parseI u.data.toList with _ | ⟨op, a, b, c', d, nm⟩
          · have HQ := Lib.hid hq
            clear hq
            go_wp2_with fail
            refine (implPrsN u _ (by omega) (HV.out.below X.out.low) HQ.out).mono ?_
            rintro e w9 ⟨rfl, hb⟩
            replace X := Lib.hid ((X.out.below hb).push #[.int .i64 0, .int .i64 0, .int .i64 0, .int .i64 0, .int .i64 0, .string ⟨#[]⟩] 32)
            clear hb
            go_wp2_with fail
            refine (implLines t _).mono ?_
            rintro e w' ⟨rfl, rfl⟩
            go_wp2_with fail
            refine (specLines t _ (by omega)).mono ?_
            rintro e w' ⟨rfl, rfl⟩
            go_wp2_with fail
            go_ret
            exact GivesBool.ret X.out.low
          · have HUX : Hid ((⟨(fmtI ⟨op, a, b, c', d, nm⟩).toArray⟩ : ByteArray) = u) := Lib.hid (by rw [(parse_iff.1 hq).2])
            have huu : u.toList == u.toList := by simp
            have HQ := Lib.hid hq
            clear hq
            go_wp2_with fail
            refine (implPrsS u op a b c' d nm _ (by omega) (HV.out.below X.out.low) HQ.out).mono ?_
            rintro e w9 ⟨rfl, hb⟩
            replace X := Lib.hid ((X.out.below hb).push #[.int .i64 op, .int .i64 a, .int .i64 b, .int .i64 c', .int .i64 d, .string nm] 32)
            clear hb
            have BX : ∀ j v, ([.int .i64 op, .int .i64 a, .int .i64 b, .int .i64 c', .int .i64 d, .string nm] : List Value)[j]? = some v → _ := fun j v h => X.out.1.at_ (g := w9.heap.size) (cs := [.int .i64 op, .int .i64 a, .int .i64 b, .int .i64 c', .int .i64 d, .string nm]) (by repeat (first | exact List.mem_cons_self | refine List.mem_cons_of_mem _ ?_)) h
            obtain ⟨p0, p1, p2, p3, p4, p5⟩ := And.intro (BX 0 _ rfl) (And.intro (BX 1 _ rfl) (And.intro (BX 2 _ rfl) (And.intro (BX 3 _ rfl) (And.intro (BX 4 _ rfl) (BX 5 _ rfl)))))
            clear BX
            go_wp2_with fail
            refine (implFmt ⟨op, a, b, c', d, nm⟩ _ (HV.out.below X.out.low).pow).mono ?_
            rintro e w12 ⟨rfl, hb⟩
            rw [HUX.out]
            replace X := Lib.hid (X.out.below hb)
            clear hb
            clear p0 p1 p2 p3 p4 p5
            go_wp2_with fail
            refine (implLines t _).mono ?_
            rintro e w' ⟨rfl, rfl⟩
            go_wp2_with fail
            refine (specLines t _ (by omega)).mono ?_
            rintro e w' ⟨rfl, rfl⟩
            go_wp2_with fail
            go_ret
            exact GivesBool.ret X.out.low
        · have hpf := parse_facts t.data.toList
          rw [hp] at hpf
          have HTN : Hid (∀ x ∈ N.map datS, Has tyScript x) := Lib.hid hpf.2.1
          have hnl : N.length ≤ 5000 := hpf.1.1
          clear hpf
          have HTX : Hid (strB (fmtL N) = t) := Lib.hid (by rw [(parseL_iff.1 hp).2.2]; rfl)
          have HIN : Hid (isLib (N.map datS) = true) := Lib.hid ((isLib_dat N).trans (parseL_iff.1 hp).2.1)
          have HP := Lib.hid hp
          clear hp
          go_wp2_with fail
          refine (implPLV t (N.map datS) true _ (by omega) (HV.out.below X.out.low) (by rw [HP.out]; rfl) (by rw [HP.out]; rfl)).mono ?_
          rintro e w6 ⟨A6, n6, c6, rfl, hO, hb⟩
          have hn6 : n6 ≤ 5000 := by have h1 := hO.lies.count; rw [List.length_map] at h1; omega
          replace X := Lib.hid ((X.out.below hb).lie hO.lies)
          clear hO hb
          go_wp2_with fail
          refine (specPLV t (N.map datS) true _ (by omega) (by rw [HP.out]; rfl) (by rw [HP.out]; rfl)).mono ?_
          rintro e w7 ⟨A7, n7, c7, rfl, hO, hb⟩
          replace X := Lib.hid (X.out.below hb)
          clear hO hb
          go_wp2_with fail
          refine (drawPI A n c _ (HC.out.low7 X.out.low) hn).mono ?_
          rintro e w8 ⟨u, hu, rfl, hb⟩
          replace X := Lib.hid (X.out.below hb)
          clear hb
          rcases hq : parseI u.data.toList with _ | ⟨op, a, b, c', d, nm⟩
          · have HQ := Lib.hid hq
            clear hq
            go_wp2_with fail
            refine (implPrsN u _ (by omega) (HV.out.below X.out.low) HQ.out).mono ?_
            rintro e w9 ⟨rfl, hb⟩
            replace X := Lib.hid ((X.out.below hb).push #[.int .i64 0, .int .i64 0, .int .i64 0, .int .i64 0, .int .i64 0, .string ⟨#[]⟩] 32)
            clear hb
            go_wp2_with fail
            refine (implFrmL N A6 n6 c6 _ (X.out.lies (d := .l (N.map datS)) (cs := [.slice A6 n6 c6]) (by repeat (first | exact List.mem_cons_self | refine List.mem_cons_of_mem _ ?_))) HTN.out (by omega) (HV.out.below X.out.low).pow).mono ?_
            rintro e w10 ⟨rfl, hb⟩
            rw [HTX.out]
            replace X := Lib.hid (X.out.below hb)
            clear hb
            go_wp2_with fail
            refine (implLib (N.map datS) A6 n6 c6 _ (X.out.lies (d := .l (N.map datS)) (cs := [.slice A6 n6 c6]) (by repeat (first | exact List.mem_cons_self | refine List.mem_cons_of_mem _ ?_))) HTN.out (by omega)).mono ?_
            rintro e w11 ⟨rfl, hb⟩
            rw [HIN.out]
            replace X := Lib.hid (X.out.below hb)
            clear hb
            go_wp2_with fail
            refine (implLines t _).mono ?_
            rintro e w' ⟨rfl, rfl⟩
            go_wp2_with fail
            refine (specLines t _ (by omega)).mono ?_
            rintro e w' ⟨rfl, rfl⟩
            go_wp2_with fail
            go_ret
            exact GivesBool.ret X.out.low
          · have HUX : Hid ((⟨(fmtI ⟨op, a, b, c', d, nm⟩).toArray⟩ : ByteArray) = u) := Lib.hid (by rw [(parse_iff.1 hq).2])
            have huu : u.toList == u.toList := by simp
            have HQ := Lib.hid hq
            clear hq
            go_wp2_with fail
            refine (implPrsS u op a b c' d nm _ (by omega) (HV.out.below X.out.low) HQ.out).mono ?_
            rintro e w9 ⟨rfl, hb⟩
            replace X := Lib.hid ((X.out.below hb).push #[.int .i64 op, .int .i64 a, .int .i64 b, .int .i64 c', .int .i64 d, .string nm] 32)
            clear hb
            go_wp2_with fail
            refine (implFrmL N A6 n6 c6 _ (X.out.lies (d := .l (N.map datS)) (cs := [.slice A6 n6 c6]) (by repeat (first | exact List.mem_cons_self | refine List.mem_cons_of_mem _ ?_))) HTN.out (by omega) (HV.out.below X.out.low).pow).mono ?_
            rintro e w10 ⟨rfl, hb⟩
            rw [HTX.out]
            replace X := Lib.hid (X.out.below hb)
            clear hb
            go_wp2_with fail
            refine (implLib (N.map datS) A6 n6 c6 _ (X.out.lies (d := .l (N.map datS)) (cs := [.slice A6 n6 c6]) (by repeat (first | exact List.mem_cons_self | refine List.mem_cons_of_mem _ ?_))) HTN.out (by omega)).mono ?_
            rintro e w11 ⟨rfl, hb⟩
            rw [HIN.out]
            replace X := Lib.hid (X.out.below hb)
            clear hb
            have BX : ∀ j v, ([.int .i64 op, .int .i64 a, .int .i64 b, .int .i64 c', .int .i64 d, .string nm] : List Value)[j]? = some v → _ := fun j v h => X.out.1.at_ (g := w9.heap.size) (cs := [.int .i64 op, .int .i64 a, .int .i64 b, .int .i64 c', .int .i64 d, .string nm]) (by repeat (first | exact List.mem_cons_self | refine List.mem_cons_of_mem _ ?_)) h
            obtain ⟨p0, p1, p2, p3, p4, p5⟩ := And.intro (BX 0 _ rfl) (And.intro (BX 1 _ rfl) (And.intro (BX 2 _ rfl) (And.intro (BX 3 _ rfl) (And.intro (BX 4 _ rfl) (BX 5 _ rfl)))))
            clear BX
            go_wp2_with fail
            refine (implFmt ⟨op, a, b, c', d, nm⟩ _ (HV.out.below X.out.low).pow).mono ?_
            rintro e w12 ⟨rfl, hb⟩
            rw [HUX.out]
            replace X := Lib.hid (X.out.below hb)
            clear hb
            clear p0 p1 p2 p3 p4 p5
            go_wp2_with fail
            refine (implLines t _).mono ?_
            rintro e w' ⟨rfl, rfl⟩
            go_wp2_with fail
            refine (specLines t _ (by omega)).mono ?_
            rintro e w' ⟨rfl, rfl⟩
            go_wp2_with fail
            go_ret
            exact GivesBool.ret X.out.low
  · go_enter Tryz.func3, Tryz.ntmps3
    go_wp2_with fail
    refine (big_yes A n c _ hn).mono ?_
    rintro e w' ⟨rfl, rfl⟩
    go_wp2_with fail
    go_ret
    exact GivesBool.ret (Below.refl _ _)
end Go.Proofs.YthgcodbcafpmhaaGreatDoor
