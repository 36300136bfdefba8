/- The walk of FnExtensions (written by glwext.py). -/
import Derived.Test.YtmikoihpmhfafaaL24
import Derived.Test.YtmikoihpmhfafaaIey
import Derived.Test.YtmikoihpmhfafaaIsd
import Derived.Test.YtmikoihpmhfafaaLe5
import Derived.Test.YtmikoihpmhfafaaL5a
import Derived.Test.YtmikoihpmhfafaaL17
import Derived.Test.YtmikoihpmhfafaaIox
import Derived.Test.YtmikoihpmhfafaaCtg
namespace Go.Proofs.Ytmikoihpmhfafaa
open Go.RowKit

theorem one_intsX (l : List Int) : ∀ u ∈ ints l, u.oneCell' = true := by
  intro u hu
  obtain ⟨x, _, rfl⟩ := List.mem_map.1 hu
  rfl
theorem ok_le2 {L : List (List Int)} (h : okMan L = true) : ∀ xs ∈ L, (xs.length : Int) ≤ 1048576 := (man_le h).2
theorem ne_sel2 (x : Int) : (x != x) = false := by simp
set_option maxHeartbeats 12800000 in
set_option maxRecDepth 100000 in
theorem law_FnExtensions {A0 : Option Addr} {c0 n0 : Nat} {bs : List Value} (w : World) (hl : bs.length = n0) (hr : Rd w A0 bs) (hu : ∀ v ∈ bs, ∃ x : Nat, v = .int .u8 x ∧ x < 256) :
    Calls Try.prog 3 #[.slice A0 n0 c0] w fun e w' => e = .returned (.bool true) ∧ Below w.heap.size w w' := by
  have HL0 := Lib.hid hl
  have HR0 := Lib.hid hr
  have HU := Lib.hid hu
  have B0 := Lib.hid (Below.refl w.heap.size w)
  clear hl hr hu
  by_cases hbig : (4096 : Int) < (n0 : Int)
  · go_enter Try.func3, Try.ntmps3
    go_wp2_with fail
    refine (big_any w).mono ?_
    rintro e wz ⟨rfl, rfl⟩
    rw [decide_eq_true (show (4096 : Int) < (n0 : Int) by omega)]
    go_wp2
    go_ret
    exact ⟨rfl, B0.out⟩
  have hn0 : n0 ≤ 1048576 := by omega
  go_enter Try.func3, Try.ntmps3
  go_wp2_with fail
  refine (big_any w).mono ?_
  rintro e wz ⟨rfl, rfl⟩
  rw [decide_eq_false (show ¬ (4096 : Int) < (n0 : Int) by omega)]
  go_wp2_with fail
  refine (drawEx w HL0.out HR0.out HU.out hn0).mono ?_
  rintro e w1 ⟨A1, N, c1, xss, rfl, hx, hN6, hrr, hcap, hc63, hrd, bel1⟩
  have HX := Lib.hid hx
  have HA := Lib.hid hrd
  have HR := Lib.hid hrr
  have B1 := Lib.hid bel1
  have hN : N ≤ 1048576 := by omega
  obtain ⟨L, hL⟩ : ∃ L, exR false xss = L := ⟨_, rfl⟩
  obtain ⟨C, hC⟩ : ∃ C, exC xss = C := ⟨_, rfl⟩
  obtain ⟨l, hl⟩ : ∃ l, L.length = l := ⟨_, rfl⟩
  have hlb := exR_le false xss
  rw [hL, hl] at hlb
  have HL := Lib.hid hL
  have HC := Lib.hid hC
  have HLN := Lib.hid hl
  have HLR := Lib.hid hlb.2
  have hl6 := hlb.1
  have sn_ := (St.start w1).addBlk #[.slice A1 N c1] 26
  simp only [List.nil_append] at sn_
  have S1 := Lib.hid sn_
  clear sn_
  clear hx hrd hrr bel1 B0 HR0 hL hC hl hlb
  have bx0 := (S1.out.blk (i := 0) rfl).cell (i := 0) rfl
  go_wp2_with fail
  refine (iExtendManiplex_any _ HX.out (HA.out.keep S1.out.below) hN HR.out).mono ?_
  rintro e w2 ⟨Ak, ck, rfl, own, bel⟩
  rw [HL.out, HLN.out] at own
  rw [HL.out, HC.out, HLN.out]
  obtain ⟨vk, st_⟩ := S1.out.addRows bel own (Nat.le_refl _) (Nat.le_refl _)
  have sn_ := st_.addBlk #[.slice Ak l ck] 26
  simp only [List.nil_append, List.cons_append] at sn_
  have S2 := Lib.hid sn_
  clear own bel st_ sn_ S1 bx0
  have bx0 := (S2.out.blk (i := 0) rfl).cell (i := 0) rfl
  go_wp2_with fail
  refine (sExtendManiplex_any _ HX.out (HA.out.keep S2.out.below) hN HR.out).mono ?_
  rintro e w3 ⟨At, ct, rfl, own, bel⟩
  rw [HL.out, HLN.out] at own
  rw [HL.out, HC.out, HLN.out]
  obtain ⟨vt, st_⟩ := S2.out.addRows bel own (Nat.le_refl _) (Nat.le_refl _)
  have sn_ := st_.addBlk #[.slice At l ct] 26
  simp only [List.nil_append, List.cons_append] at sn_
  have S3 := Lib.hid sn_
  clear own bel st_ sn_ S2 bx0
  have bx0 := (S3.out.blk (i := 2) rfl).cell (i := 0) rfl
  have bx1 := (S3.out.blk (i := 4) rfl).cell (i := 0) rfl
  have hne := ne_sel2 C
  go_wp2_with fail
  refine (like5_any (r := true) _ HLN.out HLN.out (ownSS_rd (S3.out.sep.ownSS (i := 1) rfl)) (ownSS_rd (S3.out.sep.ownSS (i := 3) rfl)) hl6 hl6 HLR.out HLR.out (decide_eq_true rfl)).mono ?_
  rintro e wL ⟨rfl, bel⟩
  have S4 := Lib.hid (S3.out.go bel)
  clear bel S3 bx0 bx1 hne
  by_cases hC0 : C = 0
  case neg =>
    have hcn : ((C : Int) != 0) = true := by simpa using hC0
    go_wp2
    go_ret
    exact ⟨rfl, B1.out.trans (S4.out.below.mono B1.out.size)⟩
  case pos =>
    have hcz : ((C : Int) != 0) = false := by rw [hC0]; rfl
    have ho : okMan xss = true ∧ xss.length ≠ 5 ∧ flN xss ≤ 200 := by
      have h := HC.out
      rw [hC0] at h
      unfold exC at h
      split at h
      · rename_i h1
        split at h
        · omega
        · rename_i h2
          split at h
          · rename_i h3; exact ⟨h1, h2, h3⟩
          · omega
      · omega
    obtain ⟨K, I0, F, D, T, O, pf⟩ := extF (okMan_iff.1 ho.1) ho.2.2 ho.2.1
    obtain rfl : L = K := by rw [← HL.out, pf.ex.1]
    obtain rfl : l = N + 1 := by rw [← HLN.out, ← HX.out]; exact pf.lL
    have hN1 : N + 1 ≤ 1048576 := by omega
    have HO := Lib.hid ho.1
    have M0 := Lib.hid (show manC xss = 0 by simp [manC, ho.1])
    have M1 := Lib.hid (show manC L = 0 by simp [manC, pf.mL])
    have M2 := Lib.hid (show manC I0 = 0 by simp [manC, pf.mI])
    obtain ⟨X, hX⟩ : ∃ X, fcR xss = X := ⟨_, rfl⟩
    have hXl : X.length = N := by
      rw [← hX]
      unfold fcR
      rw [if_pos ho.1, cntTo_len]
      exact HX.out
    have FX := Lib.hid hX
    have FXL := Lib.hid hXl
    have FY := Lib.hid (show fcR L = X ++ [2] by rw [pf.fcL, hX])
    have FYL := Lib.hid (show (X ++ [2]).length = N + 1 by simp [hXl])
    have FZ := Lib.hid (show fcR I0 = 2 :: X by rw [pf.fcI, hX])
    have FZL := Lib.hid (show (2 :: X).length = N + 1 by simp [hXl])
    have PF := Lib.hid pf
    have LL := Lib.hid (show L.length = N + 1 by rw [← HX.out]; exact pf.lL)
    have LI := Lib.hid (show I0.length = N + 1 by rw [← HX.out]; exact pf.lI)
    have LF := Lib.hid (show F.length = N by rw [← HX.out]; exact pf.lF)
    have HKR := Lib.hid (ok_le2 pf.mL)
    have HIR := Lib.hid (ok_le2 pf.mI)
    have HFR := Lib.hid (ok_le2 pf.mF)
    clear pf ho hX hXl
    have bx0 := (S4.out.blk (i := 0) rfl).cell (i := 0) rfl
    go_wp2_with fail
    refine (iExtendInside_any _ HX.out (HA.out.keep S4.out.below) hN HR.out).mono ?_
    rintro e w4 ⟨Ai, ci, rfl, own, bel⟩
    rw [PF.out.inn, LI.out] at own
    rw [PF.out.inn, PF.out.ex.2, LI.out]
    obtain ⟨vi, st_⟩ := S4.out.addRows bel own (Nat.le_refl _) (Nat.le_refl _)
    have sn_ := st_.addBlk #[.slice Ai (N + 1) ci] 26
    simp only [List.nil_append, List.cons_append] at sn_
    have S5 := Lib.hid sn_
    clear own bel st_ sn_ S4 bx0
    have bx0 := (S5.out.blk (i := 0) rfl).cell (i := 0) rfl
    go_wp2_with fail
    refine (iFaceCounts_any _ HX.out (HA.out.keep S5.out.below) hN HR.out hcap hc63).mono ?_
    rintro e w5 ⟨Ax, cx, rfl, own, bel⟩
    rw [FX.out, FXL.out] at own
    rw [FX.out, FXL.out, M0.out]
    have sn_ := S5.out.addOwn bel own (Nat.le_refl _)
    simp only [List.nil_append, List.cons_append] at sn_
    have S6 := Lib.hid sn_
    clear sn_ own bel S5 bx0
    have hcp := ownSS_cap (S6.out.sep.ownSS (i := 1) rfl)
    have bx0 := (S6.out.blk (i := 2) rfl).cell (i := 0) rfl
    go_wp2_with fail
    refine (iFaceCounts_any _ LL.out (ownSS_rd (S6.out.sep.ownSS (i := 1) rfl)) hN1 HKR.out hcp.1 hcp.2).mono ?_
    rintro e w6 ⟨Ay, cy, rfl, own, bel⟩
    rw [FY.out, FYL.out] at own
    rw [FY.out, FYL.out, M1.out]
    have sn_ := S6.out.addOwn bel own (Nat.le_refl _)
    simp only [List.nil_append, List.cons_append] at sn_
    have S7 := Lib.hid sn_
    clear sn_ own bel S6 bx0
    clear hcp
    have hcp := ownSS_cap (S7.out.sep.ownSS (i := 5) rfl)
    have bx0 := (S7.out.blk (i := 6) rfl).cell (i := 0) rfl
    go_wp2_with fail
    refine (iFaceCounts_any _ LI.out (ownSS_rd (S7.out.sep.ownSS (i := 5) rfl)) hN1 HIR.out hcp.1 hcp.2).mono ?_
    rintro e w7 ⟨Ac, cc, rfl, own, bel⟩
    rw [FZ.out, FZL.out] at own
    rw [FZ.out, FZL.out, M2.out]
    have sn_ := S7.out.addOwn bel own (Nat.le_refl _)
    simp only [List.nil_append, List.cons_append] at sn_
    have S8 := Lib.hid sn_
    clear sn_ own bel S7 bx0
    clear hcp
    have hcp := ownSS_cap (S8.out.sep.ownSS (i := 1) rfl)
    have bx0 := (S8.out.blk (i := 2) rfl).cell (i := 0) rfl
    go_wp2_with fail
    refine (iFacetAt_any 0 _ LL.out (ownSS_rd (S8.out.sep.ownSS (i := 1) rfl)) hN1 HKR.out hcp.1 hcp.2).mono ?_
    rintro e w8 ⟨Ag, cg, rfl, own, bel⟩
    rw [PF.out.fa.1, LF.out] at own
    rw [PF.out.fa.1, PF.out.fa.2, LF.out]
    obtain ⟨vg, st_⟩ := S8.out.addRows bel own (Nat.le_refl _) (Nat.le_refl _)
    have sn_ := st_.addBlk #[.slice Ag N cg] 26
    simp only [List.nil_append, List.cons_append] at sn_
    have S9 := Lib.hid sn_
    clear own bel st_ sn_ S8 bx0
    clear hcp
    have hcp := ownSS_cap (S9.out.sep.ownSS (i := 5) rfl)
    have bx0 := (S9.out.blk (i := 6) rfl).cell (i := 0) rfl
    go_wp2_with fail
    refine (iVertexFigureAt_any 0 _ LI.out (ownSS_rd (S9.out.sep.ownSS (i := 5) rfl)) hN1 HIR.out hcp.1 hcp.2).mono ?_
    rintro e w9 ⟨Av, cv, rfl, own, bel⟩
    rw [PF.out.vf.1, LF.out] at own
    rw [PF.out.vf.1, PF.out.vf.2, LF.out]
    obtain ⟨vv, st_⟩ := S9.out.addRows bel own (Nat.le_refl _) (Nat.le_refl _)
    have sn_ := st_.addBlk #[.slice Av N cv] 26
    simp only [List.nil_append, List.cons_append] at sn_
    have S10 := Lib.hid sn_
    clear own bel st_ sn_ S9 bx0
    clear hcp
    have bx0 := (S10.out.blk (i := 0) rfl).cell (i := 0) rfl
    go_wp2_with fail
    refine (iFormFrom_any 0 _ HX.out (HA.out.keep S10.out.below) hN HR.out).mono ?_
    rintro e w10 ⟨Af, cf, rfl, own, bel⟩
    rw [PF.out.fo.1, LF.out] at own
    rw [PF.out.fo.1, PF.out.fo.2, LF.out]
    obtain ⟨vf, st_⟩ := S10.out.addRows bel own (Nat.le_refl _) (Nat.le_refl _)
    have sn_ := st_.addBlk #[.slice Af N cf] 26
    simp only [List.nil_append, List.cons_append] at sn_
    have S11 := Lib.hid sn_
    clear own bel st_ sn_ S10 bx0
    have bx0 := (S11.out.blk (i := 2) rfl).cell (i := 0) rfl
    go_wp2_with fail
    refine (iMan_any _ LL.out (ownSS_rd (S11.out.sep.ownSS (i := 1) rfl)) hN1 HKR.out).mono ?_
    rintro e wa ⟨rfl, bel⟩
    rw [PF.out.mL]
    have S12 := Lib.hid (S11.out.go bel)
    clear bel S11 bx0
    have bx0 := (S12.out.blk (i := 6) rfl).cell (i := 0) rfl
    go_wp2_with fail
    refine (iMan_any _ LI.out (ownSS_rd (S12.out.sep.ownSS (i := 5) rfl)) hN1 HIR.out).mono ?_
    rintro e wb ⟨rfl, bel⟩
    rw [PF.out.mI]
    have S13 := Lib.hid (S12.out.go bel)
    clear bel S12 bx0
    have hNp : 0 < N := by
      have := (okMan_iff.1 HO.out).r1
      rw [HX.out] at this
      exact this
    obtain ⟨gx, rfl⟩ := own_shape (S13.out.own (i := 7) rfl) hNp
    have st_ := S13.out.addMade 2
    simp only [List.nil_append, List.cons_append] at st_
    have HOWN := Lib.hid (st_.own (i := 16) rfl)
    have HUS := Lib.hid (show ∀ (j : Nat) (u : Value), (ints X)[j]? = some u → (wb.alloc (.cells #[] 2)).cell? ((⟨gx, 0, none⟩ : Addr).add j) = some u from fun j u hj => by
      rw [Addr.add_zero_spot]; exact own_cell (st_.own (i := 7) rfl) (by rw [Nat.zero_add]; exact hj))
    have HONE := Lib.hid (one_intsX X)
    have HIL := Lib.hid (show (ints X).length = N by simpa [ints] using FXL.out)
    have hlo := st_.lo
    have S20 := Lib.hid st_
    clear st_ S13
    go_wp2_with (at_builtin; refine wpList_cat_g _ rfl (.tmp 125) (.tmp 126) 31 2 rfl Try.underlying31 (.int .i64 0) 8 Try.info2 rfl w1.heap.size (.slice (some ⟨wb.heap.size, 0, none⟩) 0 0) _ _ rfl HOWN.out ⟨gx, 0, none⟩ N cx (ints X) rfl HIL.out HUS.out HONE.out (by omega) (by omega) hlo ?_)
    intro A19 c19 w19 own gr hat
    have sn_ := S20.out.turn (i := 16) rfl (Below.refl _ _) (show w19.ownsRow _ _ 1 (.slice A19 N c19) N (ints X) from by simpa using own) gr (hat_of0 (by simpa using hat))
    simp only [List.set_cons_succ, List.set_cons_zero] at sn_
    have hlo2 := sn_.lo
    have HOW2 := Lib.hid (sn_.own (i := 16) rfl)
    have S21 := Lib.hid sn_
    clear sn_ own gr hat S20 HOWN HUS HONE hlo
    go_wp2_with (at_builtin; refine wpList_push_at _ rfl (.tmp 127) (.tmp 128) 31 2 rfl Try.underlying31 (.int .i64 0) 8 Try.info2 rfl w1.heap.size (.slice A19 N c19) _ _ rfl HOW2.out (.int .i64 2) rfl rfl (by omega) (by omega) hlo2 ?_)
    intro A20 c20 w20 own gr hat
    have sn_ := S21.out.push (i := 16) rfl (show w20.ownsRow _ _ 1 (.slice A20 (N + 1) c20) (N + 1) (ints (X ++ [2])) from by simpa [ints] using own) gr hat
    simp only [List.set_cons_succ, List.set_cons_zero] at sn_
    have S22 := Lib.hid sn_
    clear sn_ own gr hat S21 HOW2 hlo2
    go_wp2_with fail
    refine (likeB (n := N + 1) (m := N + 1) _ FYL.out FYL.out (own_rd (S22.out.own (i := 8) rfl)) (own_rd (S22.out.own (i := 16) rfl)) hN1).mono ?_
    rintro e w21 ⟨rfl, bel⟩
    rw [decide_eq_true (show X ++ [2] = X ++ [2] from rfl)]
    have st_ := (S22.out.go bel).addLit1 (.int .i64 2) 2
    simp only [List.nil_append, List.cons_append] at st_
    have HOWN := Lib.hid (st_.own (i := 17) rfl)
    have HUS := Lib.hid (show ∀ (j : Nat) (u : Value), (ints X)[j]? = some u → (w21.alloc (.cells #[.int .i64 2] 2)).cell? ((⟨gx, 0, none⟩ : Addr).add j) = some u from fun j u hj => by
      rw [Addr.add_zero_spot]; exact own_cell (st_.own (i := 7) rfl) (by rw [Nat.zero_add]; exact hj))
    have HONE := Lib.hid (one_intsX X)
    have hlo := st_.lo
    have S23 := Lib.hid st_
    clear st_ S22 bel
    go_wp2_with (at_builtin; refine wpList_cat_g _ (by rfl) (.tmp 134) (.tmp 135) 31 2 rfl Try.underlying31 (.int .i64 0) 8 Try.info2 rfl w1.heap.size (.slice (some ⟨w21.heap.size, 0, none⟩) 1 1) _ _ rfl HOWN.out ⟨gx, 0, none⟩ N cx (ints X) rfl HIL.out HUS.out HONE.out (by omega) (by omega) hlo ?_)
    intro A22 c22 w22 own gr hat
    have sn_ := S23.out.turn (i := 17) rfl (Below.refl _ _) (show w22.ownsRow _ _ 1 (.slice A22 (1 + N) c22) (1 + N) (ints (2 :: X)) from own) gr (hat_of0 (by simpa using hat))
    simp only [List.set_cons_succ, List.set_cons_zero] at sn_
    have S24 := Lib.hid sn_
    have hL1 : (2 :: X).length = 1 + N := by rw [FZL.out]; omega
    have HZL := Lib.hid hL1
    clear sn_ own gr hat S23 HOWN HUS HONE hlo HIL hL1
    go_wp2_with fail
    refine (likeB (n := N + 1) (m := 1 + N) _ FZL.out HZL.out (own_rd (S24.out.own (i := 9) rfl)) (own_rd (S24.out.own (i := 17) rfl)) hN1).mono ?_
    rintro e w23 ⟨rfl, bel⟩
    rw [decide_eq_true (show (2 : Int) :: X = 2 :: X from rfl)]
    have sn_ := (S24.out.go bel).take 16
    have S25 := Lib.hid (show St _ w23 [_, _, _, _, _, _, _, _, _, _, _, _, _, _, _, _] from sn_)
    clear sn_ bel S24

    have bx0 := (S25.out.blk (i := 11) rfl).cell (i := 0) rfl
    have bx1 := (S25.out.blk (i := 15) rfl).cell (i := 0) rfl
    go_wp2_with fail
    refine (like5_any (r := true) _ LF.out LF.out (ownSS_rd (S25.out.sep.ownSS (i := 10) rfl)) (ownSS_rd (S25.out.sep.ownSS (i := 14) rfl)) hN hN HFR.out HFR.out (decide_eq_true rfl)).mono ?_
    rintro e wg ⟨rfl, bel⟩
    have S26 := Lib.hid (S25.out.go bel)
    clear bel S25 bx0 bx1
    have bx0 := (S26.out.blk (i := 13) rfl).cell (i := 0) rfl
    have bx1 := (S26.out.blk (i := 15) rfl).cell (i := 0) rfl
    go_wp2_with fail
    refine (like5_any (r := true) _ LF.out LF.out (ownSS_rd (S26.out.sep.ownSS (i := 12) rfl)) (ownSS_rd (S26.out.sep.ownSS (i := 14) rfl)) hN hN HFR.out HFR.out (decide_eq_true rfl)).mono ?_
    rintro e wh ⟨rfl, bel⟩
    have S27 := Lib.hid (S26.out.go bel)
    clear bel S26 bx0 bx1
    have bx0 := (S27.out.blk (i := 0) rfl).cell (i := 0) rfl
    obtain ⟨b1, o1, A01, c01, xs0, hA1, hg0, hc0, _, _⟩ := HA.out.row (k := 0) (by rw [HX.out]; exact hNp)
    subst hA1
    obtain ⟨n, hn⟩ : ∃ n, xs0.length = n := ⟨_, rfl⟩
    rw [hn, Nat.add_zero] at hc0
    have HC0 := Lib.hid hc0
    clear hc0 hg0 hn
    go_wp2_with fail
    refine (flags5_any (n := n) (c0 := c01) (A0 := A01) _ hNp (cell_be HC0.out (S27.out.below))).mono ?_
    rintro e wf ⟨rfl, bel⟩
    have S28 := Lib.hid (S27.out.go bel)
    clear bel S27 bx0
    by_cases h40 : (40 : Int) < (n : Int)
    case pos =>
      go_wp2
      go_ret
      exact ⟨rfl, B1.out.trans (S28.out.below.mono B1.out.size)⟩
    case neg =>
    have LD := Lib.hid (show D.length = N by rw [← HX.out]; exact PF.out.lD)
    have LT := Lib.hid (show T.length = N + 1 by rw [← HX.out]; exact PF.out.lT)
    have LO := Lib.hid (show O.length = N + 1 by rw [← HX.out]; exact PF.out.lO)
    have HDR := Lib.hid (ok_le2 PF.out.mD)
    have HTR := Lib.hid (ok_le2 PF.out.mT)
    have HOR := Lib.hid (ok_le2 PF.out.mO)
    have bx0 := (S28.out.blk (i := 0) rfl).cell (i := 0) rfl
    go_wp2_with fail
    refine (iDualOf_any _ HX.out (HA.out.keep S28.out.below) hN HR.out).mono ?_
    rintro e w11 ⟨Ad, cd, rfl, own, bel⟩
    rw [PF.out.du.1, LD.out] at own
    rw [PF.out.du.1, PF.out.du.2, LD.out]
    obtain ⟨vd, st_⟩ := S28.out.addRows bel own (Nat.le_refl _) (Nat.le_refl _)
    have sn_ := st_.addBlk #[.slice Ad N cd] 26
    simp only [List.nil_append, List.cons_append] at sn_
    have S29 := Lib.hid sn_
    clear own bel st_ sn_ S28 bx0
    have bx0 := (S29.out.blk (i := 17) rfl).cell (i := 0) rfl
    go_wp2_with fail
    refine (iExtendInside_any _ LD.out (ownSS_rd (S29.out.sep.ownSS (i := 16) rfl)) hN HDR.out).mono ?_
    rintro e w12 ⟨Au, cu, rfl, own, bel⟩
    rw [PF.out.tu.1, LT.out] at own
    rw [PF.out.tu.1, PF.out.tu.2, LT.out]
    obtain ⟨vu, st_⟩ := S29.out.addRows bel own (Nat.le_refl _) (Nat.le_refl _)
    have sn_ := st_.addBlk #[.slice Au (N + 1) cu] 26
    simp only [List.nil_append, List.cons_append] at sn_
    have S30 := Lib.hid sn_
    clear own bel st_ sn_ S29 bx0
    have bx0 := (S30.out.blk (i := 2) rfl).cell (i := 0) rfl
    go_wp2_with fail
    refine (iDualOf_any _ LL.out (ownSS_rd (S30.out.sep.ownSS (i := 1) rfl)) hN1 HKR.out).mono ?_
    rintro e w13 ⟨Ao, co, rfl, own, bel⟩
    rw [PF.out.ot.1, LO.out] at own
    rw [PF.out.ot.1, PF.out.ot.2, LO.out]
    obtain ⟨vo, st_⟩ := S30.out.addRows bel own (Nat.le_refl _) (Nat.le_refl _)
    have sn_ := st_.addBlk #[.slice Ao (N + 1) co] 26
    simp only [List.nil_append, List.cons_append] at sn_
    have S31 := Lib.hid sn_
    clear own bel st_ sn_ S30 bx0
    have bx0 := (S31.out.blk (i := 19) rfl).cell (i := 0) rfl
    have bx1 := (S31.out.blk (i := 21) rfl).cell (i := 0) rfl
    go_wp2_with fail
    refine (least5_any (r := true) _ LT.out LO.out (ownSS_rd (S31.out.sep.ownSS (i := 18) rfl)) (ownSS_rd (S31.out.sep.ownSS (i := 20) rfl)) hN1 hN1 HTR.out HOR.out PF.out.mT PF.out.mO (decide_eq_true PF.out.lf)).mono ?_
    rintro e wz ⟨rfl, bel⟩
    have S32 := Lib.hid (S31.out.go bel)
    clear bel S31 bx0 bx1
    go_wp2
    go_ret
    exact ⟨rfl, B1.out.trans (S32.out.below.mono B1.out.size)⟩

theorem walk_FnExtensions (a0 : Option Addr) (len0 cap0 : Nat) (z0 : List Int) (w : World) (w0 : IsRow .u8 w a0 len0 cap0 z0) :
    Calls Try.prog 3 #[.slice a0 len0 cap0] w fun e w' => e = .returned (.bool true) ∧ Below w.heap.size w w' := by
  obtain ⟨bs, hl, hr, hu⟩ := isRow_u8 w0
  exact law_FnExtensions w hl hr hu
end Go.Proofs.Ytmikoihpmhfafaa
