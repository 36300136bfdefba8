/- The walk of FnPetries (written by glwpet.py). -/
import Derived.Test.YtpmmpnhdimgkhaaR3
import Derived.Test.YtpmmpnhdimgkhaaFpu
import Derived.Test.YtpmmpnhdimgkhaaIsd
import Derived.Test.YtpmmpnhdimgkhaaLe5
import Derived.Test.YtpmmpnhdimgkhaaL5a
import Derived.Test.YtpmmpnhdimgkhaaL6
namespace Go.Proofs.Ytpmmpnhdimgkhaa
open Go.RowKit

theorem ok_le {L : List (List Int)} (h : okMan L = true) : ∀ xs ∈ L, (xs.length : Int) ≤ 1048576 := (man_le h).2
theorem ne_self (x : Int) : (x != x) = false := by simp
set_option maxHeartbeats 12800000 in
set_option maxRecDepth 100000 in
theorem law_FnPetries {A0 : Option Addr} {c0 n0 : Nat} {bs : List Value} (w : World) (hl : bs.length = n0) (hr : Rd w A0 bs) (hu : ∀ v ∈ bs, ∃ x : Nat, v = .int .u8 x ∧ x < 256) :
    Calls Try.prog 4 #[.slice A0 n0 c0] w fun e w' => e = .returned (.bool true) ∧ Below w.heap.size w w' := by
  have HL0 := Lib.hid hl
  have HR0 := Lib.hid hr
  have HU := Lib.hid hu
  have B0 := Lib.hid (Below.refl w.heap.size w)
  clear hl hr hu
  by_cases hbig : (4096 : Int) < (n0 : Int)
  · go_enter Try.func4, Try.ntmps4
    go_wp2_with fail
    refine (big_any w).mono ?_
    rintro e wz ⟨rfl, rfl⟩
    rw [decide_eq_true (show (4096 : Int) < (n0 : Int) by omega)]
    go_wp2
    go_ret
    exact ⟨rfl, B0.out⟩
  have hn0 : n0 ≤ 1048576 := by omega
  go_enter Try.func4, Try.ntmps4
  go_wp2_with fail
  refine (big_any w).mono ?_
  rintro e wz ⟨rfl, rfl⟩
  rw [decide_eq_false (show ¬ (4096 : Int) < (n0 : Int) by omega)]
  go_wp2_with fail
  refine (drawOpp w HL0.out HR0.out HU.out hn0).mono ?_
  rintro e w1 ⟨A1, N, c1, xss, rfl, hx, hN6, hrr, hcap, hc63, hrd, bel1⟩
  have HX := Lib.hid hx
  have HA := Lib.hid hrd
  have HR := Lib.hid hrr
  have B1 := Lib.hid bel1
  have hN : N ≤ 1048576 := by omega
  obtain ⟨L, hL⟩ : ∃ L, op5R xss = L := ⟨_, rfl⟩
  obtain ⟨C, hC⟩ : ∃ C, op5C xss = C := ⟨_, rfl⟩
  obtain ⟨l, hl⟩ : ∃ l, L.length = l := ⟨_, rfl⟩
  have hlb := op5R_le xss
  rw [hL, hl] at hlb
  have HL := Lib.hid hL
  have HC := Lib.hid hC
  have HLN := Lib.hid hl
  have HLR := Lib.hid hlb.2
  have hl6 := hlb.1
  have sn_ := (St.start w1).addBlk #[.slice A1 N c1] 42
  simp only [List.nil_append] at sn_
  have S1 := Lib.hid sn_
  clear sn_
  clear hx hrd hrr bel1 B0 HR0 hL hC hl hlb
  have bx0 := (S1.out.blk (i := 0) rfl).cell (i := 0) rfl
  go_wp2_with fail
  refine (iOppositeOf_any _ HX.out (HA.out.keep S1.out.below) hN HR.out).mono ?_
  rintro e w2 ⟨Ak, ck, rfl, own, bel⟩
  rw [HL.out, HLN.out] at own
  rw [HL.out, HC.out, HLN.out]
  obtain ⟨vk, st_⟩ := S1.out.addRows bel own (Nat.le_refl _) (Nat.le_refl _)
  have sn_ := st_.addBlk #[.slice Ak l ck] 42
  simp only [List.nil_append, List.cons_append] at sn_
  have S2 := Lib.hid sn_
  clear own bel st_ sn_ S1 bx0
  have bx0 := (S2.out.blk (i := 0) rfl).cell (i := 0) rfl
  go_wp2_with fail
  refine (sOppositeOf_any _ HX.out (HA.out.keep S2.out.below) hN HR.out).mono ?_
  rintro e w3 ⟨At, ct, rfl, own, bel⟩
  rw [HL.out, HLN.out] at own
  rw [HL.out, HC.out, HLN.out]
  obtain ⟨vt, st_⟩ := S2.out.addRows bel own (Nat.le_refl _) (Nat.le_refl _)
  have sn_ := st_.addBlk #[.slice At l ct] 42
  simp only [List.nil_append, List.cons_append] at sn_
  have S3 := Lib.hid sn_
  clear own bel st_ sn_ S2 bx0
  have bx0 := (S3.out.blk (i := 2) rfl).cell (i := 0) rfl
  have bx1 := (S3.out.blk (i := 4) rfl).cell (i := 0) rfl
  have hne := ne_self C
  go_wp2_with fail
  refine (like5_any (r := true) _ HLN.out HLN.out (ownSS_rd (S3.out.sep.ownSS (i := 1) rfl)) (ownSS_rd (S3.out.sep.ownSS (i := 3) rfl)) hl6 hl6 HLR.out HLR.out (decide_eq_true rfl)).mono ?_
  rintro e wL ⟨rfl, bel⟩
  have S4 := Lib.hid (S3.out.go bel)
  clear bel S3 bx0 bx1 hne
  by_cases hC0 : C = 0
  case neg =>
    have hcn : ((C : Int) != 0) = true := by simpa using hC0
    go_wp2
    go_ret
    exact ⟨rfl, B1.out.trans (S4.out.below.mono B1.out.size)⟩
  case pos =>
    have hcz : ((C : Int) != 0) = false := by rw [hC0]; rfl
    have ho : okMan xss = true ∧ xss.length = 3 := by
      have h := HC.out
      rw [hC0] at h
      unfold op5C at h
      split at h
      · rename_i h1
        refine ⟨h1, ?_⟩
        unfold thC at h
        split at h
        · rename_i h2; exact h2.1
        · omega
      · omega
    obtain ⟨K, Pp, F, D, T, pf⟩ := petF (okMan_iff.1 ho.1) ho.2
    obtain rfl : L = K := by rw [← HL.out, pf.ko.1]
    obtain rfl : l = 3 := by rw [← HLN.out]; exact pf.lK
    obtain rfl : N = 3 := by rw [← HX.out]; exact ho.2
    have hm0 : manC xss = 0 := by simp [manC, ho.1]
    have hm1 : manC Pp = 0 := by simp [manC, pf.mP]
    obtain ⟨fa, fb, fc, fd, hfa, hfb⟩ := pf.fc
    have PF := Lib.hid pf
    have HO := Lib.hid ho.1
    have M0 := Lib.hid hm0
    have M1 := Lib.hid hm1
    have FA := Lib.hid hfa
    have FB := Lib.hid hfb
    clear pf ho hm0 hm1 hfa hfb
    have bx0 := (S4.out.blk (i := 0) rfl).cell (i := 0) rfl
    go_wp2_with fail
    refine (iPetrieOf_any _ HX.out (HA.out.keep S4.out.below) hN HR.out).mono ?_
    rintro e w4 ⟨Ap, cp, rfl, own, bel⟩
    rw [PF.out.po.1, PF.out.lP] at own
    rw [PF.out.po.1, PF.out.po.2, PF.out.lP]
    obtain ⟨vp, st_⟩ := S4.out.addRows bel own (Nat.le_refl _) (Nat.le_refl _)
    have sn_ := st_.addBlk #[.slice Ap 3 cp] 42
    simp only [List.nil_append, List.cons_append] at sn_
    have S5 := Lib.hid sn_
    clear own bel st_ sn_ S4 bx0
    have bx0 := (S5.out.blk (i := 6) rfl).cell (i := 0) rfl
    go_wp2_with fail
    refine (iPetrieOf_any _ PF.out.lP (ownSS_rd (S5.out.sep.ownSS (i := 5) rfl)) (by decide) (ok_le PF.out.mP)).mono ?_
    rintro e w5 ⟨Aa, ca, rfl, own, bel⟩
    rw [PF.out.ag.1, PF.out.lF] at own
    rw [PF.out.ag.1, PF.out.ag.2, PF.out.lF]
    obtain ⟨va, st_⟩ := S5.out.addRows bel own (Nat.le_refl _) (Nat.le_refl _)
    have sn_ := st_.addBlk #[.slice Aa 3 ca] 42
    simp only [List.nil_append, List.cons_append] at sn_
    have S6 := Lib.hid sn_
    clear own bel st_ sn_ S5 bx0
    have bx0 := (S6.out.blk (i := 0) rfl).cell (i := 0) rfl
    go_wp2_with fail
    refine (iFormFrom_any 0 _ HX.out (HA.out.keep S6.out.below) hN HR.out).mono ?_
    rintro e w6 ⟨Af, cf, rfl, own, bel⟩
    rw [PF.out.fo.1, PF.out.lF] at own
    rw [PF.out.fo.1, PF.out.fo.2, PF.out.lF]
    obtain ⟨vf, st_⟩ := S6.out.addRows bel own (Nat.le_refl _) (Nat.le_refl _)
    have sn_ := st_.addBlk #[.slice Af 3 cf] 42
    simp only [List.nil_append, List.cons_append] at sn_
    have S7 := Lib.hid sn_
    clear own bel st_ sn_ S6 bx0
    have bx0 := (S7.out.blk (i := 0) rfl).cell (i := 0) rfl
    go_wp2_with fail
    refine (iFaceCounts_any _ HX.out (HA.out.keep S7.out.below) hN HR.out hcap hc63).mono ?_
    rintro e w7 ⟨Ax, cx, rfl, own, bel⟩
    rw [FA.out] at own
    rw [FA.out, M0.out]
    have sn_ : St w1 w7 (_ ++ [.own 2 Ax 3 cx (ints [fa, fb, fc])]) := S7.out.addOwn bel own (Nat.le_refl _)
    simp only [List.nil_append, List.cons_append] at sn_
    have S8 := Lib.hid sn_
    clear sn_
    clear own bel S7 bx0
    have hcp := ownSS_cap (S8.out.sep.ownSS (i := 5) rfl)
    have bx0 := (S8.out.blk (i := 6) rfl).cell (i := 0) rfl
    go_wp2_with fail
    refine (iFaceCounts_any _ PF.out.lP (ownSS_rd (S8.out.sep.ownSS (i := 5) rfl)) (by decide) (ok_le PF.out.mP) hcp.1 hcp.2).mono ?_
    rintro e w8 ⟨Ay, cy, rfl, own, bel⟩
    rw [FB.out] at own
    rw [FB.out, M1.out]
    have sn_ : St w1 w8 (_ ++ [.own 2 Ay 3 cy (ints [fa, fb, fd])]) := S8.out.addOwn bel own (Nat.le_refl _)
    simp only [List.nil_append, List.cons_append] at sn_
    have S9 := Lib.hid sn_
    clear sn_
    clear own bel S8 bx0
    clear hcp
    have bx0 := (S9.out.blk (i := 0) rfl).cell (i := 0) rfl
    go_wp2_with fail
    refine (iDualOf_any _ HX.out (HA.out.keep S9.out.below) hN HR.out).mono ?_
    rintro e w9 ⟨Ad, cd, rfl, own, bel⟩
    rw [PF.out.du.1, PF.out.lD] at own
    rw [PF.out.du.1, PF.out.du.2, PF.out.lD]
    obtain ⟨vd, st_⟩ := S9.out.addRows bel own (Nat.le_refl _) (Nat.le_refl _)
    have sn_ := st_.addBlk #[.slice Ad 3 cd] 42
    simp only [List.nil_append, List.cons_append] at sn_
    have S10 := Lib.hid sn_
    clear own bel st_ sn_ S9 bx0
    have bx0 := (S10.out.blk (i := 14) rfl).cell (i := 0) rfl
    go_wp2_with fail
    refine (iPetrieOf_any _ PF.out.lD (ownSS_rd (S10.out.sep.ownSS (i := 13) rfl)) (by decide) (ok_le PF.out.mD)).mono ?_
    rintro e w10 ⟨Au, cu, rfl, own, bel⟩
    rw [PF.out.tu.1, PF.out.lT] at own
    rw [PF.out.tu.1, PF.out.tu.2, PF.out.lT]
    obtain ⟨vu, st_⟩ := S10.out.addRows bel own (Nat.le_refl _) (Nat.le_refl _)
    have sn_ := st_.addBlk #[.slice Au 3 cu] 42
    simp only [List.nil_append, List.cons_append] at sn_
    have S11 := Lib.hid sn_
    clear own bel st_ sn_ S10 bx0
    have bx0 := (S11.out.blk (i := 16) rfl).cell (i := 0) rfl
    go_wp2_with fail
    refine (iDualOf_any _ PF.out.lT (ownSS_rd (S11.out.sep.ownSS (i := 15) rfl)) (by decide) (ok_le PF.out.mT)).mono ?_
    rintro e w11 ⟨Ab, cb, rfl, own, bel⟩
    rw [PF.out.ba.1, PF.out.lK] at own
    rw [PF.out.ba.1, PF.out.ba.2, PF.out.lK]
    obtain ⟨vb, st_⟩ := S11.out.addRows bel own (Nat.le_refl _) (Nat.le_refl _)
    have sn_ := st_.addBlk #[.slice Ab 3 cb] 42
    simp only [List.nil_append, List.cons_append] at sn_
    have S12 := Lib.hid sn_
    clear own bel st_ sn_ S11 bx0
    have bx0 := (S12.out.blk (i := 2) rfl).cell (i := 0) rfl
    go_wp2_with fail
    refine (iOppositeOf_any _ PF.out.lK (ownSS_rd (S12.out.sep.ownSS (i := 1) rfl)) (by decide) (ok_le PF.out.mK)).mono ?_
    rintro e w12 ⟨Ag, cg, rfl, own, bel⟩
    rw [PF.out.tw.1, PF.out.lF] at own
    rw [PF.out.tw.1, PF.out.tw.2, PF.out.lF]
    obtain ⟨vg, st_⟩ := S12.out.addRows bel own (Nat.le_refl _) (Nat.le_refl _)
    have sn_ := st_.addBlk #[.slice Ag 3 cg] 42
    simp only [List.nil_append, List.cons_append] at sn_
    have S13 := Lib.hid sn_
    clear own bel st_ sn_ S12 bx0
    have bx0 := (S13.out.blk (i := 0) rfl).cell (i := 0) rfl
    obtain ⟨V, hV⟩ : ∃ V, decide (lfR xss = lfR Pp) = V := ⟨_, rfl⟩
    have HV := Lib.hid hV
    have HSP := Lib.hid (show spB5 xss = V by rw [PF.out.sp, hV])
    clear hV
    go_wp2_with fail
    refine (iIsSelfPetrie_any _ HX.out (HA.out.keep S13.out.below) hN HR.out).mono ?_
    rintro e wq ⟨rfl, bel⟩
    rw [HSP.out, PF.out.po.2]
    have S14 := Lib.hid (S13.out.go bel)
    clear bel S13 bx0
    have q_a := BelowOf.cell ((S14.out.blk (i := 8) rfl).cell (i := 0) rfl)
    have q_f := BelowOf.cell ((S14.out.blk (i := 10) rfl).cell (i := 0) rfl)
    have q_b := BelowOf.cell ((S14.out.blk (i := 18) rfl).cell (i := 0) rfl)
    have q_k := BelowOf.cell ((S14.out.blk (i := 2) rfl).cell (i := 0) rfl)
    have q_g := BelowOf.cell ((S14.out.blk (i := 20) rfl).cell (i := 0) rfl)
    have q_m := BelowOf.cell ((S14.out.blk (i := 0) rfl).cell (i := 0) rfl)
    have q_p := BelowOf.cell ((S14.out.blk (i := 6) rfl).cell (i := 0) rfl)
    obtain ⟨gx, rfl⟩ := own_shape (S14.out.own (i := 11) rfl) (by decide)
    obtain ⟨gy, rfl⟩ := own_shape (S14.out.own (i := 12) rfl) (by decide)
    have q_x0 := BelowOf.cell (own_cell (S14.out.own (i := 11) rfl) (show (ints [fa, fb, fc])[0]? = some (.int .i64 fa) from rfl))
    have q_x1 := BelowOf.cell (own_cell (S14.out.own (i := 11) rfl) (show (ints [fa, fb, fc])[1]? = some (.int .i64 fb) from rfl))
    have q_y0 := BelowOf.cell (own_cell (S14.out.own (i := 12) rfl) (show (ints [fa, fb, fd])[0]? = some (.int .i64 fa) from rfl))
    have q_y1 := BelowOf.cell (own_cell (S14.out.own (i := 12) rfl) (show (ints [fa, fb, fd])[1]? = some (.int .i64 fb) from rfl))
    have e_a : (fa == fa) = true := by simp
    have e_b : (fb == fb) = true := by simp
    have Ra := Lib.hid (ownSS_rd (S14.out.sep.ownSS (i := 7) rfl))
    have Rf := Lib.hid (ownSS_rd (S14.out.sep.ownSS (i := 9) rfl))
    have Rb := Lib.hid (ownSS_rd (S14.out.sep.ownSS (i := 17) rfl))
    have Rk := Lib.hid (ownSS_rd (S14.out.sep.ownSS (i := 1) rfl))
    have Rg := Lib.hid (ownSS_rd (S14.out.sep.ownSS (i := 19) rfl))
    have Rp := Lib.hid (ownSS_rd (S14.out.sep.ownSS (i := 5) rfl))
    have Rm := Lib.hid (HA.out.keep S14.out.below)
    have l_F := PF.out.lF
    have l_K := PF.out.lK
    have l_P := PF.out.lP
    have HFR := Lib.hid (ok_le PF.out.mF)
    have HKR := Lib.hid (ok_le PF.out.mK)
    have HPR := Lib.hid (ok_le PF.out.mP)
    have LF := Lib.hid l_F
    have LK := Lib.hid l_K
    have LP := Lib.hid l_P
    clear l_F l_K l_P
    go_wp2
    refine wp_region_quiet_below (by kernel_rfl) (by kernel_rfl) ?_
    repeat (go_big_quiet_step ((first | (go_at_call 33; exact Calls.below_of (like5_any (r := true) _ LF.out LF.out (Ra.out.keep (BelowOf.h _)) (Rf.out.keep (BelowOf.h _)) (by decide) (by decide) HFR.out HFR.out (decide_eq_true rfl))) | (go_at_call 33; exact Calls.below_of (like5_any (r := true) _ LK.out LK.out (Rb.out.keep (BelowOf.h _)) (Rk.out.keep (BelowOf.h _)) (by decide) (by decide) HKR.out HKR.out (decide_eq_true rfl))) | (go_at_call 33; exact Calls.below_of (like5_any (r := true) _ LF.out LF.out (Rg.out.keep (BelowOf.h _)) (Rf.out.keep (BelowOf.h _)) (by decide) (by decide) HFR.out HFR.out (decide_eq_true rfl))) | (go_at_call 39; exact Calls.below_of (least5_any _ HX.out LP.out (Rm.out.keep (BelowOf.h _)) (Rp.out.keep (BelowOf.h _)) (by decide) (by decide) HR.out HPR.out HO.out PF.out.mP HV.out)))))
    refine wpQuiet_nil ?_
    intro wq hw'
    obtain ⟨⟨wv, hbq⟩, hw''⟩ := hw'
    subst hw''
    have hvv : (V == V) = true := by simp
    go_wp2
    go_ret
    exact ⟨ret_bool (by simp), B1.out.trans ((S14.out.go hbq).below.mono B1.out.size)⟩

theorem walk_FnPetries (a0 : Option Addr) (len0 cap0 : Nat) (z0 : List Int) (w : World) (w0 : IsRow .u8 w a0 len0 cap0 z0) :
    Calls Try.prog 4 #[.slice a0 len0 cap0] w fun e w' => e = .returned (.bool true) ∧ Below w.heap.size w w' := by
  obtain ⟨bs, hl, hr, hu⟩ := isRow_u8 w0
  exact law_FnPetries w hl hr hu
end Go.Proofs.Ytpmmpnhdimgkhaa
