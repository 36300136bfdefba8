/- The walk of FnDuals (written by glwdual.py). -/
import Derived.Test.YtpmmpnhdimgkhaaGreatDuf
import Derived.Test.YtpmmpnhdimgkhaaGreatDuw
import Derived.Test.YtpmmpnhdimgkhaaGreatIsd
import Derived.Test.YtpmmpnhdimgkhaaGreatLe5
import Derived.Test.YtpmmpnhdimgkhaaGreatL5a
import Derived.Test.YtpmmpnhdimgkhaaGreatL11
import Derived.Test.YtpmmpnhdimgkhaaGreatL17
import Derived.Test.YtpmmpnhdimgkhaaGreatIox
namespace Go.Proofs.YtpmmpnhdimgkhaaGreat
open Go.RowKit

theorem ok_le2 {L : List (List Int)} (h : okMan L = true) : ∀ xs ∈ L, (xs.length : Int) ≤ 1048576 := (man_le h).2
theorem ne_sel2 (x : Int) : (x != x) = false := by simp
set_option maxHeartbeats 12800000 in
set_option maxRecDepth 100000 in
theorem law_FnDuals {A0 : Option Addr} {c0 n0 : Nat} {bs : List Value} (w : World) (hl : bs.length = n0) (hr : Rd w A0 bs) (hu : ∀ v ∈ bs, ∃ x : Nat, v = .int .u8 x ∧ x < 256) :
    Calls Tryz.prog 3 #[.slice A0 n0 c0] w fun e w' => e = .returned (.bool true) ∧ Below w.heap.size w w' := by
  have HL0 := Lib.hid hl
  have HR0 := Lib.hid hr
  have HU := Lib.hid hu
  have B0 := Lib.hid (Below.refl w.heap.size w)
  clear hl hr hu
  by_cases hbig : (4096 : Int) < (n0 : Int)
  · go_enter Tryz.func3, Tryz.ntmps3
    go_wp2_with fail
    refine (big_any w).mono ?_
    rintro e wz ⟨rfl, rfl⟩
    rw [decide_eq_true (show (4096 : Int) < (n0 : Int) by omega)]
    go_wp2
    go_ret
    exact ⟨rfl, B0.out⟩
  have hn0 : n0 ≤ 1048576 := by omega
  go_enter Tryz.func3, Tryz.ntmps3
  go_wp2_with fail
  refine (big_any w).mono ?_
  rintro e wz ⟨rfl, rfl⟩
  rw [decide_eq_false (show ¬ (4096 : Int) < (n0 : Int) by omega)]
  go_wp2_with fail
  refine (drawDu w HL0.out HR0.out HU.out hn0).mono ?_
  rintro e w1 ⟨A1, N, c1, xss, rfl, hx, hN6, hrr, hcap, hc63, hrd, bel1⟩
  have HX := Lib.hid hx
  have HA := Lib.hid hrd
  have HR := Lib.hid hrr
  have B1 := Lib.hid bel1
  have hN : N ≤ 1048576 := by omega
  obtain ⟨L, hL⟩ : ∃ L, duR xss = L := ⟨_, rfl⟩
  obtain ⟨C, hC⟩ : ∃ C, duC xss = C := ⟨_, rfl⟩
  obtain ⟨l, hl⟩ : ∃ l, L.length = l := ⟨_, rfl⟩
  have hlb := duR_le xss
  rw [hL, hl] at hlb
  have HL := Lib.hid hL
  have HC := Lib.hid hC
  have HLN := Lib.hid hl
  have HLR := Lib.hid hlb.2
  have hl6 := hlb.1
  have sn_ := (St.start w1).addBlk #[.slice A1 N c1] 26
  simp only [List.nil_append] at sn_
  have S1 := Lib.hid sn_
  clear sn_
  clear hx hrd hrr bel1 B0 HR0 hL hC hl hlb
  have bx0 := (S1.out.blk (i := 0) rfl).cell (i := 0) rfl
  go_wp2_with fail
  refine (iDualOf_any _ HX.out (HA.out.keep S1.out.below) hN HR.out).mono ?_
  rintro e w2 ⟨Ak, ck, rfl, own, bel⟩
  rw [HL.out, HLN.out] at own
  rw [HL.out, HC.out, HLN.out]
  obtain ⟨vk, st_⟩ := S1.out.addRows bel own (Nat.le_refl _) (Nat.le_refl _)
  have sn_ := st_.addBlk #[.slice Ak l ck] 26
  simp only [List.nil_append, List.cons_append] at sn_
  have S2 := Lib.hid sn_
  clear own bel st_ sn_ S1 bx0
  have bx0 := (S2.out.blk (i := 0) rfl).cell (i := 0) rfl
  go_wp2_with fail
  refine (sDualOf_any _ HX.out (HA.out.keep S2.out.below) hN HR.out).mono ?_
  rintro e w3 ⟨At, ct, rfl, own, bel⟩
  rw [HL.out, HLN.out] at own
  rw [HL.out, HC.out, HLN.out]
  obtain ⟨vt, st_⟩ := S2.out.addRows bel own (Nat.le_refl _) (Nat.le_refl _)
  have sn_ := st_.addBlk #[.slice At l ct] 26
  simp only [List.nil_append, List.cons_append] at sn_
  have S3 := Lib.hid sn_
  clear own bel st_ sn_ S2 bx0
  have bx0 := (S3.out.blk (i := 2) rfl).cell (i := 0) rfl
  have bx1 := (S3.out.blk (i := 4) rfl).cell (i := 0) rfl
  have hne := ne_sel2 C
  go_wp2_with fail
  refine (like5_any (r := true) _ HLN.out HLN.out (ownSS_rd (S3.out.sep.ownSS (i := 1) rfl)) (ownSS_rd (S3.out.sep.ownSS (i := 3) rfl)) hl6 hl6 HLR.out HLR.out (decide_eq_true rfl)).mono ?_
  rintro e wL ⟨rfl, bel⟩
  have S4 := Lib.hid (S3.out.go bel)
  clear bel S3 bx0 bx1 hne
  by_cases hC0 : C = 0
  case neg =>
    have hcn : ((C : Int) != 0) = true := by simpa using hC0
    go_wp2
    go_ret
    exact ⟨rfl, B1.out.trans (S4.out.below.mono B1.out.size)⟩
  case pos =>
    have hcz : ((C : Int) != 0) = false := by rw [hC0]; rfl
    have ho : okMan xss = true := by
      have h := HC.out
      rw [hC0] at h
      unfold duC at h
      split at h
      · assumption
      · omega
    obtain ⟨K, F, pf⟩ := dualF (okMan_iff.1 ho)
    obtain rfl : L = K := by rw [← HL.out, pf.du.1]
    obtain rfl : l = N := by rw [← HLN.out, ← HX.out]; exact pf.lK
    have hm0 : manC xss = 0 := by simp [manC, ho]
    have hm1 : manC L = 0 := by simp [manC, pf.mK]
    have hr1 := (okMan_iff.1 ho).r1
    rw [HX.out] at hr1
    have lK0 : L.length = l := by rw [← HX.out]; exact pf.lK
    have lF0 : F.length = l := by rw [← HX.out]; exact pf.lF
    obtain ⟨X, hX⟩ : ∃ X, fcR xss = X := ⟨_, rfl⟩
    have hXl : X.length = l := by
      rw [← hX]
      unfold fcR
      rw [if_pos ho, cntTo_len]
      exact HX.out
    have hY : fcR L = X.reverse := by rw [pf.fc, hX]
    obtain ⟨U, hU⟩ : ∃ U, tyR xss = U := ⟨_, rfl⟩
    have hV_ : tyR L = U.reverse := by rw [pf.ty, hU]
    obtain ⟨M, hM⟩ : ∃ M, U.length = M := ⟨_, rfl⟩
    have hUM : M + 1 = l := by
      rw [← hM, ← hU]
      unfold tyR
      rw [if_pos ho, tyL_len, HX.out]
      omega
    have hur := (tyR_le xss).2
    rw [hU] at hur
    have PF := Lib.hid pf
    have HO := Lib.hid ho
    have M0 := Lib.hid hm0
    have M1 := Lib.hid hm1
    have LK := Lib.hid lK0
    have LF := Lib.hid lF0
    have FX := Lib.hid hX
    have FXL := Lib.hid hXl
    have FY := Lib.hid hY
    have FYL := Lib.hid (show X.reverse.length = l by rw [List.length_reverse]; exact hXl)
    have TU := Lib.hid hU
    have TV := Lib.hid hV_
    have TUL := Lib.hid hM
    have TVL := Lib.hid (show U.reverse.length = M by rw [List.length_reverse]; exact hM)
    have TUM := Lib.hid hUM
    have TUR := Lib.hid hur
    have HR1 := Lib.hid hr1
    have HKR := Lib.hid (ok_le2 pf.mK)
    have HFR := Lib.hid (ok_le2 pf.mF)
    have hM5 : M ≤ 1048576 := by omega
    clear pf ho hm0 hm1 lK0 lF0 hX hXl hY hU hV_ hM hUM hur hr1
    have bx0 := (S4.out.blk (i := 2) rfl).cell (i := 0) rfl
    go_wp2_with fail
    refine (iDualOf_any _ LK.out (ownSS_rd (S4.out.sep.ownSS (i := 1) rfl)) hN HKR.out).mono ?_
    rintro e w4 ⟨Aa, ca, rfl, own, bel⟩
    rw [PF.out.ag.1, LF.out] at own
    rw [PF.out.ag.1, PF.out.ag.2, LF.out]
    obtain ⟨va, st_⟩ := S4.out.addRows bel own (Nat.le_refl _) (Nat.le_refl _)
    have sn_ := st_.addBlk #[.slice Aa l ca] 26
    simp only [List.nil_append, List.cons_append] at sn_
    have S5 := Lib.hid sn_
    clear own bel st_ sn_ S4 bx0
    have bx0 := (S5.out.blk (i := 0) rfl).cell (i := 0) rfl
    go_wp2_with fail
    refine (iFormFrom_any 0 _ HX.out (HA.out.keep S5.out.below) hN HR.out).mono ?_
    rintro e w5 ⟨Af, cf, rfl, own, bel⟩
    rw [PF.out.fo.1, LF.out] at own
    rw [PF.out.fo.1, PF.out.fo.2, LF.out]
    obtain ⟨vf, st_⟩ := S5.out.addRows bel own (Nat.le_refl _) (Nat.le_refl _)
    have sn_ := st_.addBlk #[.slice Af l cf] 26
    simp only [List.nil_append, List.cons_append] at sn_
    have S6 := Lib.hid sn_
    clear own bel st_ sn_ S5 bx0
    have bx0 := (S6.out.blk (i := 0) rfl).cell (i := 0) rfl
    go_wp2_with fail
    refine (iFaceCounts_any _ HX.out (HA.out.keep S6.out.below) hN HR.out hcap hc63).mono ?_
    rintro e w6 ⟨Ax, cx, rfl, own, bel⟩
    rw [FX.out, FXL.out] at own
    rw [FX.out, FXL.out, M0.out]
    have sn_ := S6.out.addOwn bel own (Nat.le_refl _)
    simp only [List.nil_append, List.cons_append] at sn_
    have S7 := Lib.hid sn_
    clear sn_ own bel S6 bx0
    have hcp := ownSS_cap (S7.out.sep.ownSS (i := 1) rfl)
    have bx0 := (S7.out.blk (i := 2) rfl).cell (i := 0) rfl
    go_wp2_with fail
    refine (iFaceCounts_any _ LK.out (ownSS_rd (S7.out.sep.ownSS (i := 1) rfl)) hN HKR.out hcp.1 hcp.2).mono ?_
    rintro e w7 ⟨Ay, cy, rfl, own, bel⟩
    rw [FY.out, FYL.out] at own
    rw [FY.out, FYL.out, M1.out]
    have sn_ := S7.out.addOwn bel own (Nat.le_refl _)
    simp only [List.nil_append, List.cons_append] at sn_
    have S8 := Lib.hid sn_
    clear sn_ own bel S7 bx0
    clear hcp
    have bx0 := (S8.out.blk (i := 0) rfl).cell (i := 0) rfl
    go_wp2_with fail
    refine (iTypeOf_any _ HX.out (HA.out.keep S8.out.below) hN HR.out hcap hc63).mono ?_
    rintro e w8 ⟨As, cs, rfl, own, bel⟩
    rw [TU.out, TUL.out] at own
    rw [TU.out, TUL.out, M0.out]
    obtain ⟨vs, sn_⟩ := S8.out.addRows bel own (Nat.le_refl _) (Nat.le_refl _)
    simp only [List.nil_append, List.cons_append] at sn_
    have S9 := Lib.hid sn_
    clear sn_ own bel S8 bx0
    have hcp := ownSS_cap (S9.out.sep.ownSS (i := 1) rfl)
    have bx0 := (S9.out.blk (i := 2) rfl).cell (i := 0) rfl
    go_wp2_with fail
    refine (iTypeOf_any _ LK.out (ownSS_rd (S9.out.sep.ownSS (i := 1) rfl)) hN HKR.out hcp.1 hcp.2).mono ?_
    rintro e w9 ⟨Au, cu, rfl, own, bel⟩
    rw [TV.out, TVL.out] at own
    rw [TV.out, TVL.out, M1.out]
    obtain ⟨vu, sn_⟩ := S9.out.addRows bel own (Nat.le_refl _) (Nat.le_refl _)
    simp only [List.nil_append, List.cons_append] at sn_
    have S10 := Lib.hid sn_
    clear sn_ own bel S9 bx0
    clear hcp
    have bx0 := (S10.out.blk (i := 0) rfl).cell (i := 0) rfl
    obtain ⟨V, hV⟩ : ∃ V, decide (lfR xss = lfR L) = V := ⟨_, rfl⟩
    have HV := Lib.hid hV
    have HSP := Lib.hid (show sduB xss = V by rw [PF.out.sd, hV])
    clear hV
    go_wp2_with fail
    refine (iIsSelfDual_any _ HX.out (HA.out.keep S10.out.below) hN HR.out).mono ?_
    rintro e wq ⟨rfl, bel⟩
    rw [HSP.out, PF.out.du.2]
    have S11 := Lib.hid (S10.out.go bel)
    clear bel S10 bx0
    have bx0 := (S11.out.blk (i := 6) rfl).cell (i := 0) rfl
    have bx1 := (S11.out.blk (i := 8) rfl).cell (i := 0) rfl
    go_wp2_with fail
    refine (like5_any (r := true) _ LF.out LF.out (ownSS_rd (S11.out.sep.ownSS (i := 5) rfl)) (ownSS_rd (S11.out.sep.ownSS (i := 7) rfl)) hN hN HFR.out HFR.out (decide_eq_true rfl)).mono ?_
    rintro e wa ⟨rfl, bel⟩
    have S12 := Lib.hid (S11.out.go bel)
    clear bel S11 bx0 bx1
    go_wp2_with fail
    refine (back5_any _ FXL.out (own_rd (S12.out.own (i := 9) rfl)) hN).mono ?_
    rintro e wb ⟨Az, cz, rfl, own, bel⟩
    have sn_ := S12.out.addOwn bel own (Nat.le_refl _)
    simp only [List.nil_append, List.cons_append] at sn_
    have S13 := Lib.hid sn_
    clear sn_ own bel S12
    go_wp2_with fail
    refine (likeB (n := l) (m := l) _ FYL.out FYL.out (own_rd (S13.out.own (i := 13) rfl)) (own_rd (S13.out.own (i := 10) rfl)) hN).mono ?_
    rintro e wc ⟨rfl, bel⟩
    rw [decide_eq_true (show X.reverse = X.reverse from rfl)]
    have S14 := Lib.hid (S13.out.go bel)
    clear bel S13
    have bx0 := (S14.out.blk (i := 0) rfl).cell (i := 0) rfl
    have bx1 := (S14.out.blk (i := 2) rfl).cell (i := 0) rfl
    have hmm : ((M : Int) != (M : Int)) = false := by simp
    go_wp2_with fail
    refine (least5_any _ HX.out LK.out (HA.out.keep S14.out.below) (ownSS_rd (S14.out.sep.ownSS (i := 1) rfl)) hN hN HR.out HKR.out HO.out PF.out.mK HV.out).mono ?_
    rintro e wd ⟨rfl, bel⟩
    have S15 := Lib.hid (S14.out.go bel)
    clear bel S14 bx0 bx1 hmm
    have hvv : (V != V) = false := by simp
    have RS := Lib.hid (ownSS_rd (S15.out.sep.ownSS (i := 11) rfl))
    have RU := Lib.hid (ownSS_rd (S15.out.sep.ownSS (i := 12) rfl))
    go_wp2
    go_loopw [22] (fun i wr => ∃ k : Nat, k ≤ M ∧ i = .int .i64 k ∧ ∃ j, wr = wd.drewN j) (fun i _ => M - (intOf i).toNat)
    case atStart => exact ⟨0, Nat.zero_le _, rfl, 0, rfl⟩
    case round =>
      obtain ⟨k, hk, rfl, j, rfl⟩ := hrel
      by_cases hlt : k < M
      · obtain ⟨q, hq⟩ : ∃ q, M = q + 1 := ⟨M - 1, by omega⟩
        obtain ⟨r, hr⟩ : ∃ r, q = r + k := ⟨q - k, by omega⟩
        obtain ⟨b1, o1, A1', c1', xs, rfl, hgx, hcx, hrd1, hm1⟩ := RS.out.row (k := k) (by rw [TUL.out]; exact hlt)
        obtain ⟨b2, o2, A2', c2', ys, rfl, hgy, hcy, hrd2, hm2⟩ := RU.out.row (k := r) (by rw [TVL.out]; omega)
        have he : ys = xs := by
          rw [List.getElem?_reverse (by rw [TUL.out]; omega), TUL.out, show M - 1 - r = k by omega, hgx] at hgy
          injection hgy with hgy
          exact hgy.symm
        subst he
        have l1 := TUR.out ys (List.mem_of_getElem? hgx)
        obtain ⟨n1, hn1⟩ : ∃ n1, ys.length = n1 := ⟨_, rfl⟩
        rw [hn1] at hcx hm1 l1 hcy
        have L1 := Lib.hid hn1
        have R1 := Lib.hid hrd1
        have R2 := Lib.hid hrd2
        have l1' : n1 ≤ 1048576 := by omega
        have e1 : (M : Int) - 1 = (q : Int) := by omega
        have e2 : (q : Int) - (k : Int) = (r : Int) := by omega
        have rM : r < M := by omega
        have qB : IntKind.i64.wrap (q : Int) = (q : Int) := IntWalk.i64_in _ (by omega)
        have rB : IntKind.i64.wrap (r : Int) = (r : Int) := IntWalk.i64_in _ (by omega)
        clear hgx hgy hn1 hrd1 hrd2 hq hr
        go_wp2
        go_quiet (first | (go_at_call 13; exact quiet_more fun W hW => like_val (r := true) W L1.out L1.out (hW ▸ R1.out) (hW ▸ R2.out) l1' l1' (decide_eq_true rfl)) | (go_at_call 13; exact quiet_one fun W hW => like_val (r := true) W L1.out L1.out (hW ▸ R1.out) (hW ▸ R2.out) l1' l1' (decide_eq_true rfl)))
        go_wp2
        go_roundw
        case rel => exact ⟨k + 1, by omega, by go_num, j + nq, by simp⟩
        case measure => simp [intOf]; omega
      · obtain rfl : k = M := by omega
        have SL := Lib.hid (S15.out.go (below_drewN (Below.refl _ _) j))
        clear S15 RS RU
        by_cases hN1 : l = 1
        · have h1 : ((l : Int) == 1) = true := by rw [hN1]; rfl
          have bx0 := (SL.out.blk (i := 0) rfl).cell (i := 0) rfl
          go_wp2
          go_ret
          exact ⟨rfl, B1.out.trans (SL.out.below.mono B1.out.size)⟩
        · have h1 : ((l : Int) == 1) = false := by simp; omega
          have hl2 : 2 ≤ l := by have := HR1.out; omega
          obtain ⟨V1, T1, hVV, hTT, hDD, oV, oT, lV, lT⟩ := PF.out.sec (by rw [HX.out]; exact hl2)
          rw [HX.out] at lV lT
          obtain ⟨p, hp⟩ : ∃ p, l - 1 = p := ⟨_, rfl⟩
          rw [hp] at lV lT
          have hp6 : p ≤ 1048576 := by omega
          have VV := Lib.hid hVV
          have TT := Lib.hid hTT
          have DD := Lib.hid hDD
          have LV := Lib.hid lV
          have LT := Lib.hid lT
          have VR := Lib.hid (ok_le2 oV)
          have TR := Lib.hid (ok_le2 oT)
          clear hVV hTT hDD lV lT oV oT hp
          have S100 := Lib.hid SL.out
          have hcp := ownSS_cap (S100.out.sep.ownSS (i := 1) rfl)
          have bxm := (S100.out.blk (i := 0) rfl).cell (i := 0) rfl
          have bx0 := (S100.out.blk (i := 2) rfl).cell (i := 0) rfl
          go_wp2_with fail
          refine (iFacetAt_any 0 _ LK.out (ownSS_rd (S100.out.sep.ownSS (i := 1) rfl)) hN HKR.out hcp.1 hcp.2).mono ?_
          rintro e w10 ⟨Ag, cg, rfl, own, bel⟩
          rw [TT.out.1, LT.out] at own
          rw [TT.out.1, TT.out.2, LT.out]
          obtain ⟨vg, st_⟩ := S100.out.addRows bel own (Nat.le_refl _) (Nat.le_refl _)
          have sn_ := st_.addBlk #[.slice Ag p cg] 26
          simp only [List.nil_append, List.cons_append] at sn_
          have S101 := Lib.hid sn_
          clear own bel st_ sn_ S100 bx0
          clear hcp bxm h1
          have bx0 := (S101.out.blk (i := 0) rfl).cell (i := 0) rfl
          go_wp2_with fail
          refine (iVertexFigureAt_any 0 _ HX.out (HA.out.keep S101.out.below) hN HR.out hcap hc63).mono ?_
          rintro e w11 ⟨Av, cv, rfl, own, bel⟩
          rw [VV.out.1, LV.out] at own
          rw [VV.out.1, VV.out.2, LV.out]
          obtain ⟨vv, st_⟩ := S101.out.addRows bel own (Nat.le_refl _) (Nat.le_refl _)
          have sn_ := st_.addBlk #[.slice Av p cv] 26
          simp only [List.nil_append, List.cons_append] at sn_
          have S102 := Lib.hid sn_
          clear own bel st_ sn_ S101 bx0
          have bx0 := (S102.out.blk (i := 17) rfl).cell (i := 0) rfl
          go_wp2_with fail
          refine (iDualOf_any _ LV.out (ownSS_rd (S102.out.sep.ownSS (i := 16) rfl)) hp6 VR.out).mono ?_
          rintro e w12 ⟨Ad, cd, rfl, own, bel⟩
          rw [DD.out.1, LT.out] at own
          rw [DD.out.1, DD.out.2, LT.out]
          obtain ⟨vd, st_⟩ := S102.out.addRows bel own (Nat.le_refl _) (Nat.le_refl _)
          have sn_ := st_.addBlk #[.slice Ad p cd] 26
          simp only [List.nil_append, List.cons_append] at sn_
          have S103 := Lib.hid sn_
          clear own bel st_ sn_ S102 bx0
          have bx0 := (S103.out.blk (i := 15) rfl).cell (i := 0) rfl
          have bx1 := (S103.out.blk (i := 19) rfl).cell (i := 0) rfl
          go_wp2_with fail
          refine (like5_any (r := true) _ LT.out LT.out (ownSS_rd (S103.out.sep.ownSS (i := 14) rfl)) (ownSS_rd (S103.out.sep.ownSS (i := 18) rfl)) hp6 hp6 TR.out TR.out (decide_eq_true rfl)).mono ?_
          rintro e wz ⟨rfl, bel⟩
          have S104 := Lib.hid (S103.out.go bel)
          go_wp2
          go_ret
          exact ⟨rfl, B1.out.trans (S104.out.below.mono B1.out.size)⟩

theorem walk_FnDuals (a0 : Option Addr) (len0 cap0 : Nat) (z0 : List Int) (w : World) (w0 : IsRow .u8 w a0 len0 cap0 z0) :
    Calls Tryz.prog 3 #[.slice a0 len0 cap0] w fun e w' => e = .returned (.bool true) ∧ Below w.heap.size w w' := by
  obtain ⟨bs, hl, hr, hu⟩ := isRow_u8 w0
  exact law_FnDuals w hl hr hu
end Go.Proofs.YtpmmpnhdimgkhaaGreat
