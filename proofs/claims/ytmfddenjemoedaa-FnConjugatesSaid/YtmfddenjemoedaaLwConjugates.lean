import Derived.Test.YtmfddenjemoedaaPm5
import Derived.Test.YtmfddenjemoedaaFcn
import Derived.BigQuiet
namespace Go.Proofs.Ytmfddenjemoedaa
open Go.RowKit

section
variable {A : Option Addr} {n c : Nat} {bs : List Value}
theorem drawCj (w : World) (hl : bs.length = n) (hr : Rd w A bs) (hu : ∀ v ∈ bs, ∃ x : Nat, v = .int .u8 x ∧ x < 256) (hn : n ≤ 1048576) :
    Calls Try.prog 8 #[.slice A n c] w (RetP w) := by
  have H := Lib.hid (pairE (c := c) w hl hr hu hn)
  clear hl hr hu
  go_enter Try.func8, Try.ntmps8
  go_wp2_with fail
  refine H.out.mono ?_
  rintro e w1 ⟨A1, A2, c1, c2, m1, m2, L1, L2, rfl, h⟩
  have HH := Lib.hid h
  clear h
  go_wp2
  exact bodyPost_ret (v := .tuple #[.slice A1 m1 c1, .slice A2 m2 c2]) (by simp [results, Try.results8, go_sem]) rfl ⟨A1, A2, c1, c2, m1, m2, L1, L2, rfl, HH.out⟩
end
theorem Rd.nil6 {w : World} {A : Option Addr} : Rd w A (ints []) := fun h => absurd h (by simp)
set_option maxHeartbeats 6400000 in
set_option maxRecDepth 100000 in
theorem law_FnConjugates {A0 : Option Addr} {c0 n0 : Nat} {bs : List Value} (w : World) (hl : bs.length = n0) (hr : Rd w A0 bs) (hu : ∀ v ∈ bs, ∃ x : Nat, v = .int .u8 x ∧ x < 256) :
    Calls Try.prog 3 #[.slice A0 n0 c0] w fun e w' => e = .returned (.bool true) ∧ Below w.heap.size w w' := by
  have HL0 := Lib.hid hl
  have HR0 := Lib.hid hr
  have HU := Lib.hid hu
  have B0 := Lib.hid (Below.refl w.heap.size w)
  clear hl hr hu
  by_cases hbig : (4096 : Int) < (n0 : Int)
  · go_enter Try.func3, Try.ntmps3
    go_wp2_with fail
    refine (big_any w).mono ?_
    rintro e wz ⟨rfl, rfl⟩
    rw [decide_eq_true (show (4096 : Int) < (n0 : Int) by omega)]
    go_wp2
    go_ret
    exact ⟨rfl, B0.out⟩
  have hn0 : n0 ≤ 1048576 := by omega
  go_enter Try.func3, Try.ntmps3
  go_wp2_with fail
  refine (big_any w).mono ?_
  rintro e wz ⟨rfl, rfl⟩
  rw [decide_eq_false (show ¬ (4096 : Int) < (n0 : Int) by omega)]
  go_wp2_with fail
  refine (drawCj w HL0.out HR0.out HU.out hn0).mono ?_
  rintro e w1 ⟨A1, A2, c1, c2, m1, m2, L1, L2, rfl, hl1, hm1, hl2, hm2, own1, own2, bel1⟩
  have HX1 := Lib.hid hl1
  have HX2 := Lib.hid hl2
  have R1 := Lib.hid (own_rd own1)
  have R2 := Lib.hid (own_rd own2)
  have B1 := Lib.hid bel1
  have S1 := Lib.hid (St.start w1)
  clear hl1 hl2 own1 own2 bel1 B0
  cases ho : okTwo L1 L2
  · have E1 := Lib.hid (show conjR L1 L2 = [] by simp [conjR, ho])
    have E2 := Lib.hid (show twoC L1 L2 = 1 by simp [twoC, ho])
    clear ho
    go_wp2_with fail
    refine (iConj_any _ HX1.out (R1.out.keep S1.out.below) hm1 HX2.out (R2.out.keep S1.out.below) hm2).mono ?_
    rintro e w3 ⟨A3, c3, rfl, own, bel⟩
    rw [E1.out] at own
    rw [E1.out, E2.out]
    have S3 := Lib.hid (S1.out.addOwn bel own (Nat.le_refl _))
    clear own bel S1
    go_wp2_with fail
    refine (sConj_any _ HX1.out (R1.out.keep S3.out.below) hm1 HX2.out (R2.out.keep S3.out.below) hm2).mono ?_
    rintro e w4 ⟨A4, c4, rfl, own, bel⟩
    rw [E1.out] at own
    rw [E1.out, E2.out]
    have S4 := Lib.hid (S3.out.addOwn bel own (Nat.le_refl _))
    clear own bel S3
    have hne : ((1 : Int) != 1) = false := rfl
    go_wp2_with fail
    refine (likeB (n := 0) (m := 0) (xs := []) (ys := []) _ rfl rfl Rd.nil6 Rd.nil6 (by omega)).mono ?_
    rintro e w5 ⟨rfl, bel⟩
    rw [decide_eq_true (show ([] : List Int) = [] from rfl)]
    have S5 := Lib.hid (S4.out.go bel)
    clear bel S4
    go_wp2
    go_ret
    exact ⟨rfl, B1.out.trans (S5.out.below.mono B1.out.size)⟩
  have hok := ho
  unfold okTwo at hok
  simp only [Bool.and_eq_true, decide_eq_true_eq] at hok
  obtain ⟨⟨hp, hq⟩, hlen⟩ := hok
  have hmm : m1 = m2 := by rw [← HX1.out, ← HX2.out, hlen]
  subst hmm
  have h400 : m1 ≤ 400 := by rw [← HX1.out]; exact (of_decide_eq_true hp).1
  have hcl : (conjL L1 L2).length = m1 := conj_len HX2.out
  have hcp := okP_conj HX1.out HX2.out hp hq
  have E1 := Lib.hid (show conjR L1 L2 = conjL L1 L2 by simp [conjR, ho])
  have E2 := Lib.hid (show twoC L1 L2 = 0 by simp [twoC, ho])
  have HCL := Lib.hid hcl
  have F1 := Lib.hid (show lensR L1 = lensL L1 by simp [lensR, hp])
  have F2 := Lib.hid (show permC L1 = 0 by simp [permC, hp])
  have F3 := Lib.hid (show lensR (conjL L1 L2) = lensL L1 by simp [lensR, hcp, conj_lens HX1.out HX2.out hp hq])
  have F4 := Lib.hid (show permC (conjL L1 L2) = 0 by simp [permC, hcp])
  have HP := Lib.hid hp
  have HQ := Lib.hid hq
  have HC := Lib.hid hcp
  obtain ⟨K, hK⟩ : ∃ K, (lensL L1).length = K := ⟨_, rfl⟩
  have hK4 : K ≤ 1048576 := by
    rw [← hK]
    have := lensR_len L1; rw [lensR, if_pos hp, HX1.out] at this; omega
  have HK := Lib.hid hK
  clear ho hp hq hlen hcl hcp hK
  go_wp2_with fail
  refine (iConj_any _ HX1.out (R1.out.keep S1.out.below) hm1 HX2.out (R2.out.keep S1.out.below) hm2).mono ?_
  rintro e w3 ⟨A3, c3, rfl, own, bel⟩
  rw [E1.out, HCL.out] at own
  rw [E1.out, E2.out, HCL.out]
  have S3 := Lib.hid (S1.out.addOwn bel own (Nat.le_refl _))
  clear own bel S1
  go_wp2_with fail
  refine (sConj_any _ HX1.out (R1.out.keep S3.out.below) hm1 HX2.out (R2.out.keep S3.out.below) hm2).mono ?_
  rintro e w4 ⟨A4, c4, rfl, own, bel⟩
  rw [E1.out, HCL.out] at own
  rw [E1.out, E2.out, HCL.out]
  have S4 := Lib.hid (S3.out.addOwn bel own (Nat.le_refl _))
  clear own bel S3
  have hne : ((0 : Int) != 0) = false := rfl
  have RA := Lib.hid (own_rd (S4.out.own (i := 0) rfl))
  have RB := Lib.hid (own_rd (S4.out.own (i := 1) rfl))
  go_wp2_with fail
  refine (likeB (n := m1) (m := m1) _ HCL.out HCL.out RA.out RB.out (by omega)).mono ?_
  rintro e w5 ⟨rfl, bel⟩
  rw [decide_eq_true rfl]
  have S5 := Lib.hid (S4.out.go bel)
  clear bel S4 RA RB
  have HRD := Lib.hid (HR0.out.keep (B1.out.trans (S5.out.below.mono B1.out.size)))
  go_wp2_with fail
  refine (roll_any (s := 702) _ HL0.out HRD.out HU.out hn0 (by omega) (by omega)).mono ?_
  rintro e w6 ⟨g, at', h', rfl, hg, hg1, src, bel⟩
  have HS := Lib.hid (show SrcE w6 g A0 n0 c0 bs from ⟨at', h', src⟩)
  have B6 := Lib.hid bel
  clear src bel
  go_wp2_with fail
  refine (perm5P (N := m1) _ HS.out hn0 h400).mono ?_
  rintro e w7 ⟨wb7, A7, c7, Q, rfl, hQl, hQp, d_, st_⟩
  have B7 := Lib.hid (Turns.below B6.out (d_.fin st_).1 B6.out.size hg)
  have HQL := Lib.hid hQl
  have HQK := Lib.hid (passed_okP hQp hQl h400)
  have S7 := Lib.hid (S5.out.go B7.out)
  have T7 := Lib.hid (own_rd (st_.own (i := 0) rfl))
  have S8 := Lib.hid (St.start w7)
  clear d_ st_ hQl hQp S5 B6 B7 HS HRD
  have RC := Lib.hid (own_rd (S7.out.own (i := 0) rfl))
  have BB := Lib.hid (B1.out.trans (S7.out.below.mono B1.out.size))
  have R17 := Lib.hid (R1.out.keep S7.out.below)
  have R27 := Lib.hid (R2.out.keep S7.out.below)
  have O1 := Lib.hid (show okTwo (conjL L1 L2) Q = true by simp [okTwo, HC.out, HQK.out, HCL.out, HQL.out])
  have O2 := Lib.hid (show okTwo L2 Q = true by simp [okTwo, HQ.out, HQK.out, HX2.out, HQL.out])
  have hthl : (thenL L2 Q).length = m1 := by rw [thenL_length, HX2.out]
  have hthk := okP_then HX2.out HQL.out HQ.out HQK.out
  have O3 := Lib.hid (show okTwo L1 (thenL L2 Q) = true by simp [okTwo, HP.out, hthk, HX1.out, hthl])
  obtain ⟨Z, hZ⟩ : ∃ Z, conjL L1 (thenL L2 Q) = Z := ⟨_, rfl⟩
  have hZl : Z.length = m1 := by rw [← hZ]; exact conj_len hthl
  have G1 := Lib.hid (show conjR (conjL L1 L2) Q = Z ∧ twoC (conjL L1 L2) Q = 0 by
    rw [← hZ, ← conj_conj HX1.out HX2.out HQL.out HP.out HQ.out HQK.out]
    simp [conjR, twoC, O1.out])
  have G2 := Lib.hid (show thenR L2 Q = thenL L2 Q ∧ twoC L2 Q = 0 by simp [thenR, twoC, O2.out])
  have G3 := Lib.hid (show conjR L1 (thenL L2 Q) = Z ∧ twoC L1 (thenL L2 Q) = 0 by
    rw [← hZ]
    simp [conjR, twoC, O3.out])
  have HZ := Lib.hid hZl
  have HT := Lib.hid hthl
  clear hthl hthk hZ hZl S7 O1 O2 O3
  go_wp2_with fail
  refine (iLen_any _ HX1.out R17.out hm1).mono ?_
  rintro e w9 ⟨A9, c9, rfl, own, bel⟩
  rw [F1.out, HK.out] at own
  rw [F1.out, F2.out, HK.out]
  have S9 := Lib.hid (S8.out.addOwn bel own (Nat.le_refl _))
  clear own bel S8
  go_wp2_with fail
  refine (iLen_any _ HCL.out (RC.out.keep S9.out.below) (by omega)).mono ?_
  rintro e w10 ⟨A10, c10, rfl, own, bel⟩
  rw [F3.out, HK.out] at own
  rw [F3.out, F4.out, HK.out]
  have S10 := Lib.hid (S9.out.addOwn bel own (Nat.le_refl _))
  clear own bel S9
  go_wp2_with fail
  refine (iConj_any _ HCL.out (RC.out.keep S10.out.below) (by omega) HQL.out (T7.out.keep S10.out.below) (by omega)).mono ?_
  rintro e w11 ⟨A11, c11, rfl, own, bel⟩
  rw [G1.out.1, HZ.out] at own
  rw [G1.out.1, G1.out.2, HZ.out]
  have S11 := Lib.hid (S10.out.addOwn bel own (Nat.le_refl _))
  clear own bel S10
  go_wp2_with fail
  refine (iThen_any _ HX2.out (R27.out.keep S11.out.below) (by omega) HQL.out (T7.out.keep S11.out.below) (by omega)).mono ?_
  rintro e w12 ⟨A12, c12, rfl, own, bel⟩
  rw [G2.out.1, HT.out] at own
  rw [G2.out.1, G2.out.2, HT.out]
  have S12 := Lib.hid (S11.out.addOwn bel own (Nat.le_refl _))
  clear own bel S11
  go_wp2_with fail
  refine (iConj_any _ HX1.out (R17.out.keep S12.out.below) hm1 HT.out (own_rd (S12.out.own (i := 3) rfl)) (by omega)).mono ?_
  rintro e w13 ⟨A13, c13, rfl, own, bel⟩
  rw [G3.out.1, HZ.out] at own
  rw [G3.out.1, G3.out.2, HZ.out]
  have S13 := Lib.hid (S12.out.addOwn bel own (Nat.le_refl _))
  clear own bel S12
  have RA := Lib.hid (own_rd (S13.out.own (i := 0) rfl))
  have RB := Lib.hid (own_rd (S13.out.own (i := 1) rfl))
  go_wp2_with fail
  refine (likeB (n := K) (m := K) _ HK.out HK.out RA.out RB.out (by omega)).mono ?_
  rintro e w14 ⟨rfl, bel⟩
  rw [decide_eq_true rfl]
  have S14 := Lib.hid (S13.out.go bel)
  clear bel S13 RA RB
  have RA := Lib.hid (own_rd (S14.out.own (i := 2) rfl))
  have RB := Lib.hid (own_rd (S14.out.own (i := 4) rfl))
  go_wp2_with fail
  refine (likeB (n := m1) (m := m1) _ HZ.out HZ.out RA.out RB.out (by omega)).mono ?_
  rintro e w15 ⟨rfl, bel⟩
  rw [decide_eq_true rfl]
  have S15 := Lib.hid (S14.out.go bel)
  clear bel S14 RA RB
  go_wp2
  go_ret
  exact ⟨rfl, BB.out.trans (S15.out.below.mono BB.out.size)⟩
theorem walk_FnConjugates (a0 : Option Addr) (len0 cap0 : Nat) (z0 : List Int) (w : World) (w0 : IsRow .u8 w a0 len0 cap0 z0) :
    Calls Try.prog 3 #[.slice a0 len0 cap0] w fun e w' => e = .returned (.bool true) ∧ Below w.heap.size w w' := by
  obtain ⟨bs, h1, h2, h3⟩ := isRow_u8 w0
  exact law_FnConjugates w h1 h2 h3
end Go.Proofs.Ytmfddenjemoedaa
