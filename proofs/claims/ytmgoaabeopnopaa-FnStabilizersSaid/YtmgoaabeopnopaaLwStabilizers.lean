/- The walk of FnStabilizers. -/
import Derived.Test.YtmgoaabeopnopaaSbf
import Derived.Test.YtmgoaabeopnopaaSbd
import Derived.Test.YtmgoaabeopnopaaLk
import Derived.Test.YtmgoaabeopnopaaAv
namespace Go.Proofs.Ytmgoaabeopnopaa
open Go.RowKit

set_option maxHeartbeats 102400000 in
set_option maxRecDepth 100000 in
theorem law_FnStabilizers {A0 : Option Addr} {c0 n0 : Nat} {bs : List Value} (w : World) (hl : bs.length = n0) (hr : Rd w A0 bs) (hu : ∀ v ∈ bs, ∃ x : Nat, v = .int .u8 x ∧ x < 256) :
    Calls Try.prog 14 #[.slice A0 n0 c0] w fun e w' => e = .returned (.bool true) ∧ Below w.heap.size w w' := by
  have HL0 := Lib.hid hl
  have HR0 := Lib.hid hr
  have HU := Lib.hid hu
  have B0 := Lib.hid (Below.refl w.heap.size w)
  clear hl hr hu
  by_cases hbig : (4096 : Int) < (n0 : Int)
  · go_enter Try.func14, Try.ntmps14
    go_wp2_with fail
    refine (big_any w).mono ?_
    rintro e wz ⟨rfl, rfl⟩
    rw [decide_eq_true (show (4096 : Int) < (n0 : Int) by omega)]
    go_wp2
    go_ret
    exact ⟨rfl, B0.out⟩
  have hn0 : n0 ≤ 1048576 := by omega
  go_enter Try.func14, Try.ntmps14
  go_wp2_with fail
  refine (big_any w).mono ?_
  rintro e wz ⟨rfl, rfl⟩
  rw [decide_eq_false (show ¬ (4096 : Int) < (n0 : Int) by omega)]
  go_wp2_with fail
  refine (drawSB w HL0.out HR0.out HU.out hn0).mono ?_
  rintro e w1 ⟨A1, N, c1, xss, k1, y, rfl, hx, hN6, hrr, hcap, hc63, hrd, bel1⟩
  have HX := Lib.hid hx
  have HA := Lib.hid hrd
  have HR := Lib.hid hrr
  have B1 := Lib.hid bel1
  have hN : N ≤ 1048576 := by omega
  obtain ⟨L, hL⟩ : ∃ L, sbR xss k1 y = L := ⟨_, rfl⟩
  obtain ⟨C, hC⟩ : ∃ C, fcC xss k1 y (-1) = C := ⟨_, rfl⟩
  obtain ⟨l, hl⟩ : ∃ l, L.length = l := ⟨_, rfl⟩
  have hlb := sbR_le xss k1 y
  rw [hL, hl] at hlb
  have HL := Lib.hid hL
  have HC := Lib.hid hC
  have HLN := Lib.hid hl
  have HLR := Lib.hid hlb.2
  have hl6 := hlb.1
  have sn_ := (St.start w1).addBlk #[.slice A1 N c1] 27
  simp only [List.nil_append] at sn_
  have S1 := Lib.hid sn_
  clear sn_ hx hrd hrr bel1 hL hC hl hlb
  have bx0 := (S1.out.blk (i := 0) rfl).cell (i := 0) rfl
  go_wp2_with fail
  refine (iStabilizerOf_any k1 y _ HX.out (HA.out.keep S1.out.below) hN HR.out hcap hc63).mono ?_
  rintro e w2 ⟨Ai, ci, rfl, own, bel⟩
  rw [HL.out, HLN.out] at own
  rw [HL.out, HLN.out, HC.out]
  obtain ⟨vi, sn_⟩ := S1.out.addRows bel own (Nat.le_refl _) (Nat.le_refl _)
  simp only [List.nil_append, List.cons_append] at sn_
  have S2 := Lib.hid sn_
  clear sn_ own bel S1 bx0
  have bx0 := (S2.out.blk (i := 0) rfl).cell (i := 0) rfl
  go_wp2_with fail
  refine (sStabilizerOf_any k1 y _ HX.out (HA.out.keep S2.out.below) hN HR.out).mono ?_
  rintro e w3 ⟨As, cs, rfl, own, bel⟩
  rw [HL.out, HLN.out] at own
  rw [HL.out, HLN.out, HC.out]
  obtain ⟨vs, sn_⟩ := S2.out.addRows bel own (Nat.le_refl _) (Nat.le_refl _)
  simp only [List.nil_append, List.cons_append] at sn_
  have S3 := Lib.hid sn_
  clear sn_ own bel S2 bx0
  have hne : (C != C) = false := by simp
  go_wp2_with fail
  refine (likeRows_any (n := l) (m := l) _ HLN.out HLN.out (ownSS_rd (S3.out.sep.ownSS (i := 1) rfl)) (ownSS_rd (S3.out.sep.ownSS (i := 2) rfl)) hl6 hl6 HLR.out HLR.out).mono ?_
  rintro e w4 ⟨rfl, j4, rfl⟩
  rw [decide_eq_true (show L = L from rfl)]
  have S4 := Lib.hid (show St w1 (w3.drewN j4) [.blk w1.heap.size #[.slice A1 N c1] 27, .rows 2 36 Ai l ci vi L] from (S3.out.go (below_drewN (Below.refl _ _) j4)).take 2)
  clear S3 hne
  by_cases hC0 : C = 0
  case neg =>
    have hc0 : ((C : Int) != 0) = true := by simpa using hC0
    go_wp2
    go_ret
    exact ⟨rfl, B1.out.trans (S4.out.below.mono B1.out.size)⟩
  case pos =>
    subst hC0
    obtain ⟨i, j, rfl, rfl, hst⟩ := stbF HC.out
    obtain ⟨M, hM⟩ : ∃ M, (auR xss).length = M := ⟨_, rfl⟩
    obtain ⟨q, hq⟩ : ∃ q, fcn xss i = q := ⟨_, rfl⟩
    obtain ⟨O, hO⟩ : ∃ O, foR6 xss (i : Int) = O := ⟨_, rfl⟩
    obtain ⟨FC, hFC⟩ : ∃ F, fcR xss = F := ⟨_, rfl⟩
    obtain ⟨V, hV⟩ : ∃ V, trB xss (i : Int) = V := ⟨_, rfl⟩
    have hiN := hst.ir
    have hjq := hst.jr
    have hq4 := hst.f4
    have hrk := hst.rk
    have hau := hst.au
    have hfo := hst.fo
    have hfc := hst.fc
    have hfl := hst.fl
    have hmn := hst.mn
    have htr := hst.tr
    have hct := hst.ct
    rw [HX.out] at hiN hfl
    rw [hq] at hjq hq4 hfo hfc htr hct
    rw [hO] at hfo htr hct
    rw [hFC] at hfc hfl
    rw [hV] at htr
    rw [HL.out, HLN.out, hM] at hct
    obtain ⟨x, hx⟩ : ∃ x, O[j]? = some x := ⟨_, List.getElem?_eq_getElem (by rw [hfo]; exact hjq)⟩
    have hx0 : fz O j = x := fz_at hx
    rw [hx0] at hct
    have HAU := Lib.hid hau
    have HM := Lib.hid hM
    have HFO := Lib.hid hfo
    have HFC := Lib.hid hfc
    have HFL := Lib.hid hfl
    have HMN := Lib.hid hmn
    have HTR := Lib.hid htr
    have HCT := Lib.hid hct
    have HRK := Lib.hid hrk
    have HO := Lib.hid hO
    have HFR := Lib.hid hFC
    have HV := Lib.hid hV
    have HXJ := Lib.hid hx
    have hM6 : M ≤ 1048576 := by rw [← hM]; exact (auR_le xss).1
    clear hst hau hM hfo hfc hfl hmn htr hct hrk hO hFC hV hx hx0 hq
    have bx0 := (S4.out.blk (i := 0) rfl).cell (i := 0) rfl
    go_wp2_with fail
    refine (iCountAutomorphisms_any _ HX.out (HA.out.keep S4.out.below) hN HR.out).mono ?_
    rintro e w5 ⟨rfl, bel⟩
    rw [HM.out, HAU.out]
    have S5 := Lib.hid (S4.out.go bel)
    clear bel S4 bx0
    have bx0 := (S5.out.blk (i := 0) rfl).cell (i := 0) rfl
    go_wp2_with fail
    refine (iFaceOrbits_any (i : Int) _ HX.out (HA.out.keep S5.out.below) hN HR.out hcap hc63).mono ?_
    rintro e w6 ⟨Al, cl, rfl, own, bel⟩
    rw [HO.out, HFO.out] at own
    rw [HO.out, HFO.out, HRK.out]
    obtain ⟨gl, rfl⟩ := own_shape own (by omega)
    have sn_ := S5.out.addOwn bel own (Nat.le_refl _)
    simp only [List.nil_append, List.cons_append] at sn_
    have S6 := Lib.hid sn_
    clear sn_ own bel S5 bx0
    have bx0 := (S6.out.blk (i := 0) rfl).cell (i := 0) rfl
    go_wp2_with fail
    refine (iFaceCounts_any _ HX.out (HA.out.keep S6.out.below) hN HR.out hcap hc63).mono ?_
    rintro e w7 ⟨Af, cf, rfl, own, bel⟩
    rw [HFR.out, HFL.out] at own
    rw [HFR.out, HFL.out, HMN.out]
    obtain ⟨gf, rfl⟩ := own_shape own (by omega)
    have sn_ := S6.out.addOwn bel own (Nat.le_refl _)
    simp only [List.nil_append, List.cons_append] at sn_
    have S7 := Lib.hid sn_
    clear sn_ own bel S6 bx0
    have bx0 := (S7.out.blk (i := 0) rfl).cell (i := 0) rfl
    go_wp2_with fail
    refine (iIsTransitiveOn_any (i : Int) _ HX.out (HA.out.keep S7.out.below) hN HR.out hcap hc63).mono ?_
    rintro e w8 ⟨rfl, bel⟩
    rw [HV.out, HRK.out]
    have S8 := Lib.hid (S7.out.go bel)
    clear bel S7 bx0
    have cfi := own_cell (S8.out.own (i := 3) rfl) (k := i) (u := .int .i64 q) (by simp [HFC.out])
    have hNi : ¬ (N : Int) ≤ (i : Int) := by omega
    have hqq : ((q : Int) != (q : Int)) = false := by simp
    have hqj : ¬ (q : Int) ≤ (j : Int) := by omega
    go_wp2
    clear cfi hNi hqq hqj
    go_loopw [18, 19, 20] (fun u s v wr => ∃ e7 : Nat, e7 ≤ q ∧ u = .int .i64 (szTo O x e7) ∧ s = .bool (sgTo O e7) ∧ v = .int .i64 e7 ∧ ∃ d, wr = w8.drewN d) (fun _ _ v _ => q - (intOf v).toNat)
    case atStart => exact ⟨0, Nat.zero_le _, rfl, rfl, rfl, 0, rfl⟩
    case round =>
      obtain ⟨e7, he7, rfl, rfl, rfl, d, rfl⟩ := hrel
      by_cases heq : e7 < q
      · obtain ⟨y7, hy7⟩ : ∃ y, O[e7]? = some y := ⟨_, List.getElem?_eq_getElem (by rw [HFO.out]; exact heq)⟩
        have ce := own_cell (S8.out.own (i := 2) rfl) (k := e7) (u := .int .i64 y7) (by simp [hy7])
        have cj := own_cell (S8.out.own (i := 2) rfl) (k := j) (u := .int .i64 x) (by simp [HXJ.out])
        have hfz : fz O e7 = y7 := fz_at hy7
        have hsz : szTo O x (e7 + 1) = szTo O x e7 + (if y7 = x then 1 else 0) := by rw [szTo, hfz]
        have hsg : sgTo O (e7 + 1) = (sgTo O e7 && decide (y7 = 0)) := by rw [sgTo, hfz]
        have hsle := szTo_le (O := O) (x := x) e7
        obtain ⟨s7, hs7⟩ : ∃ s, szTo O x e7 = s := ⟨_, rfl⟩
        obtain ⟨b7, hb7⟩ : ∃ b, sgTo O e7 = b := ⟨_, rfl⟩
        rw [hs7] at hsz hsle ⊢
        rw [hb7] at hsg ⊢
        obtain ⟨z7, hz7⟩ : ∃ b, decide (y7 = 0) = b := ⟨_, rfl⟩
        rw [hz7] at hsg
        have HSG := Lib.hid hsg
        have hyz : (y7 == 0) = z7 := by rw [← hz7]; rfl
        have HYZ := Lib.hid hyz
        have eI : (e7 : Int) < (q : Int) := by omega
        have jI : (j : Int) < (q : Int) := by omega
        have j1 : IntKind.i64.wrap ((s7 : Int) + 1) = ((s7 + 1 : Nat) : Int) := (IntWalk.i64_in _ (by omega)).trans (by omega)
        clear hy7 hfz hs7 hb7 hz7 hsg hyz
        by_cases hyx : y7 = x
        · subst hyx
          rw [if_pos rfl] at hsz
          have HSZ := Lib.hid hsz
          clear hsz
          have hyz := HYZ.out
          cases b7
          · go_wp2
            go_quiet (fail)
            go_wp2
            go_roundw
            case rel => exact ⟨e7 + 1, by omega, by rw [HSZ.out]; rfl, by rw [HSG.out]; rfl, by go_num, d + nq, by simp⟩
            case measure => simp [intOf]; omega
          · go_wp2
            go_quiet (fail)
            go_wp2
            go_roundw
            case rel => exact ⟨e7 + 1, by omega, by rw [HSZ.out]; rfl, by rw [HSG.out, Bool.true_and], by go_num, d + nq, by simp⟩
            case measure => simp [intOf]; omega
        · rw [if_neg hyx] at hsz
          have HSZ := Lib.hid hsz
          have hne : (y7 == x) = false := by rw [beq_eq_false_iff_ne]; exact hyx
          clear hsz
          have hyz := HYZ.out
          cases b7
          · go_wp2
            go_quiet (fail)
            go_wp2
            go_roundw
            case rel => exact ⟨e7 + 1, by omega, by rw [HSZ.out]; rfl, by rw [HSG.out]; rfl, by go_num, d + nq, by simp⟩
            case measure => simp [intOf]; omega
          · go_wp2
            go_quiet (fail)
            go_wp2
            go_roundw
            case rel => exact ⟨e7 + 1, by omega, by rw [HSZ.out]; rfl, by rw [HSG.out, Bool.true_and], by go_num, d + nq, by simp⟩
            case measure => simp [intOf]; omega
      · obtain rfl : e7 = q := by omega
        have hct := HCT.out
        have hsle := szTo_le (O := O) (x := x) e7
        obtain ⟨s7, hs7⟩ : ∃ s, szTo O x e7 = s := ⟨_, rfl⟩
        rw [hs7] at hct hsle ⊢
        rw [← HTR.out]
        have hmI : ((l : Int) * (s7 : Int)) = (M : Int) := by rw [← hct, Int.natCast_mul]
        have hmw : IntKind.i64.wrap ((l : Int) * (s7 : Int)) = (M : Int) := by rw [hmI]; exact IntWalk.i64_in _ (by omega)
        clear hct hs7 hmI
        go_wp2
        go_ret
        exact ⟨by simp, B1.out.trans ((below_drewN S8.out.below d).mono B1.out.size)⟩

theorem walk_FnStabilizers (a0 : Option Addr) (len0 cap0 : Nat) (z0 : List Int) (w : World) (w0 : IsRow .u8 w a0 len0 cap0 z0) :
    Calls Try.prog 14 #[.slice a0 len0 cap0] w fun e w' => e = .returned (.bool true) ∧ Below w.heap.size w w' := by
  obtain ⟨bs, hl, hr, hu⟩ := isRow_u8 w0
  exact law_FnStabilizers w hl hr hu
end Go.Proofs.Ytmgoaabeopnopaa
