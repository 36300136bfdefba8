import Derived.Test.YtckmmgepoccopaaFl3
import Derived.Test.YtckmmgepoccopaaLk
import Derived.Test.YtckmmgepoccopaaSfa
import Derived.Test.YtckmmgepoccopaaL11
import Derived.Test.YtckmmgepoccopaaL17
import Derived.BigQuiet
namespace Go.Proofs.Ytckmmgepoccopaa
open Go.RowKit

set_option maxHeartbeats 6400000 in
set_option maxRecDepth 100000 in
theorem law_FnSections {A0 : Option Addr} {c0 n0 : Nat} {bs : List Value} (w : World) (hl : bs.length = n0) (hr : Rd w A0 bs) (hu : ∀ v ∈ bs, ∃ x : Nat, v = .int .u8 x ∧ x < 256) :
    Calls Try.prog 6 #[.slice A0 n0 c0] w fun e w' => e = .returned (.bool true) ∧ Below w.heap.size w w' := by
  have HL0 := Lib.hid hl
  have HR0 := Lib.hid hr
  have HU := Lib.hid hu
  have B0 := Lib.hid (Below.refl w.heap.size w)
  clear hl hr hu
  by_cases hbig : (4096 : Int) < (n0 : Int)
  · go_enter Try.func6, Try.ntmps6
    go_wp2_with fail
    refine (big_any w).mono ?_
    rintro e wz ⟨rfl, rfl⟩
    rw [decide_eq_true (show (4096 : Int) < (n0 : Int) by omega)]
    go_wp2
    go_ret
    exact ⟨rfl, B0.out⟩
  have hn0 : n0 ≤ 1048576 := by omega
  go_enter Try.func6, Try.ntmps6
  go_wp2_with fail
  refine (big_any w).mono ?_
  rintro e wz ⟨rfl, rfl⟩
  rw [decide_eq_false (show ¬ (4096 : Int) < (n0 : Int) by omega)]
  go_wp2_with fail
  refine (drawSA w HL0.out HR0.out HU.out hn0).mono ?_
  rintro e w1 ⟨A1, N, c1, xss, k1, k2, k3, rfl, hx, hN6, hrr, hcap, hc63, hrd, bel1⟩
  have HX := Lib.hid hx
  have HA := Lib.hid hrd
  have HR := Lib.hid hrr
  have B1 := Lib.hid bel1
  have hN : N ≤ 1048576 := by omega
  have S1 := Lib.hid ((St.start w1).addBlk #[.slice A1 N c1] 26)
  have hx0 := hx
  have HLR := Lib.hid (scR_row (xss := xss) k1 k2 k3)
  have hz0 := @scC_zeroE xss k1 k2 k3
  obtain ⟨L, hL⟩ : ∃ L, scR xss k1 k2 k3 = L := ⟨_, rfl⟩
  obtain ⟨C, hC⟩ : ∃ C, scC xss k1 k2 k3 = C := ⟨_, rfl⟩
  obtain ⟨R, hRL⟩ : ∃ R, L.length = R := ⟨_, rfl⟩
  rw [hL] at HLR
  rw [hL, hC] at hz0
  have EL := Lib.hid hL
  have EC := Lib.hid hC
  have ER := Lib.hid hRL
  have HZ := Lib.hid hz0
  clear hx hrd hrr bel1 B0 hL hC hRL hz0
  have hb0 := (S1.out.blk (i := 0) rfl).cell (i := 0) rfl
  go_wp2_with fail
  refine (iSectionAt_any k1 k2 k3 _ HX.out (HA.out.keep S1.out.below) hN HR.out hcap hc63).mono ?_
  rintro e w2 ⟨A2, c2, rfl, own, bel⟩
  rw [EL.out, ER.out] at own
  rw [EL.out, EC.out, ER.out]
  obtain ⟨v2, st_⟩ := S1.out.addRows bel own (Nat.le_refl _) (Nat.le_refl _)
  have S2 := Lib.hid (st_.addBlk #[.slice A2 R c2] 26)
  clear bel own st_ S1 hb0
  have hb0 := (S2.out.blk (i := 0) rfl).cell (i := 0) rfl
  go_wp2_with fail
  refine (sSectionAt_any k1 k2 k3 _ HX.out (HA.out.keep S2.out.below) hN HR.out hcap hc63).mono ?_
  rintro e w3 ⟨A3, c3, rfl, own, bel⟩
  rw [EL.out, ER.out] at own
  rw [EL.out, EC.out, ER.out]
  obtain ⟨v3, st_⟩ := S2.out.addRows bel own (Nat.le_refl _) (Nat.le_refl _)
  have S3 := Lib.hid (st_.addBlk #[.slice A3 R c3] 26)
  clear bel own st_ S2 hb0
  have hRN : R ≤ 1048576 := by
    by_cases h : C = 0
    · obtain ⟨p, i0, k0, _, _, _, hp, hik, hk, hman, hL⟩ := HZ.out h
      have := (sec_facts hman hp hik hk).len
      rw [← hL, ER.out] at this
      omega
    · have hL : L = [] := by rw [← EL.out]; unfold scR; rw [if_neg (by rw [EC.out]; exact h)]
      have := ER.out
      rw [hL] at this
      simp at this
      omega
  have hne : (C != C) = false := by simp
  have hbi := (S3.out.blk (i := 2) rfl).cell (i := 0) rfl
  have hbj := (S3.out.blk (i := 4) rfl).cell (i := 0) rfl
  have RI := Lib.hid (ownSS_rd (S3.out.sep.ownSS (i := 1) rfl))
  have RJ := Lib.hid (ownSS_rd (S3.out.sep.ownSS (i := 3) rfl))
  go_wp2_with fail
  refine (like5_any (n := R) (m := R) (xss := L) (yss := L) (r := true) _ ER.out ER.out RI.out RJ.out (by omega) (by omega) HLR.out HLR.out (decide_eq_true rfl)).mono ?_
  rintro e w4 ⟨rfl, bel⟩
  have S4 := Lib.hid (S3.out.go bel)
  clear bel S3 RI RJ hbi hbj
  by_cases hc0 : ¬ C = 0
  · have hc1 : (C != 0) = true := by simpa using hc0
    go_wp2
    go_ret
    exact ⟨rfl, B1.out.trans (S4.out.below.mono B1.out.size)⟩
  have hc0 := Classical.not_not.1 hc0
  subst hc0
  obtain ⟨p, i0, k0, rfl, rfl, rfl, hp, hik, hk, hman, hL⟩ := HZ.out rfl
  have sf := sec_facts hman hp hik hk
  have hrow := secAt_row (i := i0) (k := k0) hman hp
  have hn4 := hman.f4
  rw [hx0] at hk
  have hN5 := hman.r5
  rw [hx0] at hN5
  rw [← hL] at sf hrow
  obtain ⟨d, hd⟩ : ∃ d, k0 - i0 = d := ⟨_, rfl⟩
  have hdI : (k0 : Int) - (i0 : Int) = (d : Int) := by omega
  have hRd : R = d + 1 := by rw [← ER.out, sf.len, hd]
  have hsl := sf.man.f4
  have e1 : ffR L 0 = L ∧ ffC L 0 = 0 := by
    have h1 : flagB (flN L) 0 = true := by have := sf.man.f2; simp [flagB]; omega
    have h2 := okMan_true sf.man
    exact ⟨by simp [ffR, h1, h2, sf.frm], by simp [ffC, h1, h2]⟩
  have e2 : tyR L = tyL L (flN L) d ∧ manC L = 0 := by
    have h2 := okMan_true sf.man
    refine ⟨?_, by simp [manC, h2]⟩
    unfold tyR
    rw [if_pos h2, ER.out, hRd, Nat.add_sub_cancel]
  have e3 : tyR xss = tyL xss (flN xss) (N - 1) ∧ manC xss = 0 := by
    have h2 := okMan_true hman
    refine ⟨?_, by simp [manC, h2]⟩
    unfold tyR
    rw [if_pos h2, hx0]
  have hfin : ∀ a b : Nat, a ≤ b → b ≤ d → (scC L 0 (a : Int) (b : Int) = 0 ∧ scR L 0 (a : Int) (b : Int) = secAt xss p (i0 + a) (i0 + b)) ∧ (scC xss (p : Int) ((i0 + a : Nat) : Int) ((i0 + b : Nat) : Int) = 0 ∧ scR xss (p : Int) ((i0 + a : Nat) : Int) ((i0 + b : Nat) : Int) = secAt xss p (i0 + a) (i0 + b)) ∧ (secAt xss p (i0 + a) (i0 + b)).length = b - a + 1 ∧ (∀ xs ∈ secAt xss p (i0 + a) (i0 + b), (xs.length : Int) ≤ 1048576) := fun a b hab hb => by
    have h1 := scC_ok (p := 0) (a := a) (b := b) sf.man (by have := sf.man.f2; omega) hab (by rw [ER.out]; omega)
    rw [sf.inn a b hab (by omega)] at h1
    refine ⟨h1, scC_ok hman hp (by omega) (by rw [hx0]; omega), ?_, secAt_row hman hp⟩
    rw [(sec_facts hman hp (i := i0 + a) (k := i0 + b) (by omega) (by rw [hx0]; omega)).len]
    omega
  have hpol : ∀ (j : Nat) (x : Int), j < d → x ∈ polL ((L.drop j).take 2) (flN L) → x ∈ polL ((xss.drop (i0 + j)).take 2) (flN xss) := fun j x hj hx => sf.pol j x (by omega) hx
  have hLr := sf.man.r5
  rw [ER.out] at hLr
  have HFIN := Lib.hid hfin
  have HPOL := Lib.hid hpol
  have E1 := Lib.hid e1
  have E2 := Lib.hid e2
  obtain ⟨M2, hM2⟩ : ∃ M2, N - 1 = M2 := ⟨_, rfl⟩
  rw [hM2] at e3
  have hM2a : M2 + 1 ≤ N := by omega
  have hM2b : N ≤ M2 + 1 := by omega
  clear hM2
  have E3 := Lib.hid e3
  have T1L := Lib.hid (tyL_len L (flN L) d)
  have T2L := Lib.hid (tyL_len xss (flN xss) M2)
  clear hman hL sf hrow e1 e2 e3 hfin hpol hne HZ hx0
  have S5 := Lib.hid (S4.out.take 3)
  clear S4
  have HRD := Lib.hid (HR0.out.keep (B1.out.trans (S5.out.below.mono B1.out.size)))
  go_wp2_with fail
  refine (roll_any (s := 707) _ HL0.out HRD.out HU.out hn0 (by omega) (by omega)).mono ?_
  rintro e w5 ⟨g, at', h', rfl, hg, hg1, src, bel⟩
  have D5 := Lib.hid (show SrcE w5 g A0 n0 c0 bs from ⟨at', h', src⟩)
  have B5 := Lib.hid bel
  clear src bel
  have q1 : IntKind.i64.wrap ((k0 : Int) - (i0 : Int)) = (d : Int) := (IntWalk.i64_in _ (by omega)).trans hdI
  have q2 : IntKind.i64.wrap ((d : Int) + 1) = (d : Int) + 1 := IntWalk.i64_in _ (by omega)
  have hdk : i0 + d ≤ k0 := by omega
  have hdN : d + 1 ≤ N := by omega
  clear hRd hd hdI
  go_wp2_with fail
  refine (belowE (N := (d : Int) + 1) _ D5.out hn0 (by omega)).mono ?_
  rintro e w6 ⟨r, rfl, ⟨h0r, h1r⟩, hs_, tu_⟩
  obtain ⟨a, rfl⟩ := Int.eq_ofNat_of_zero_le h0r
  have D6 := Lib.hid hs_
  have B6 := Lib.hid (Turns.below B5.out tu_ B5.out.size hg)
  clear hs_ tu_ B5 D5
  have q3 : IntKind.i64.wrap ((d : Int) - (a : Int)) = (d : Int) - (a : Int) := IntWalk.i64_in _ (by omega)
  have q4 : IntKind.i64.wrap ((d : Int) - (a : Int) + 1) = (d : Int) - (a : Int) + 1 := IntWalk.i64_in _ (by omega)
  go_wp2_with fail
  refine (belowE (N := (d : Int) - (a : Int) + 1) _ D6.out hn0 (by omega)).mono ?_
  rintro e w7 ⟨r, rfl, ⟨h0r2, h1r2⟩, hs_, tu_⟩
  obtain ⟨t, rfl⟩ := Int.eq_ofNat_of_zero_le h0r2
  have B7 := Lib.hid (Turns.below B6.out tu_ B6.out.size hg)
  clear hs_ tu_ B6 D6
  have S7 := Lib.hid (S5.out.go B7.out)
  clear S5 B7
  obtain ⟨b, hb⟩ : ∃ b, a + t = b := ⟨_, rfl⟩
  have hbI : (a : Int) + (t : Int) = (b : Int) := by omega
  have q5 : IntKind.i64.wrap ((a : Int) + (t : Int)) = (b : Int) := (IntWalk.i64_in _ (by omega)).trans hbI
  have hbd : b ≤ d := by omega
  have hab : a ≤ b := by omega
  clear hbI hb
  have q6 : IntKind.i64.wrap ((i0 : Int) + (a : Int)) = ((i0 + a : Nat) : Int) := (IntWalk.i64_in _ (by omega)).trans (by omega)
  have q7 : IntKind.i64.wrap ((i0 : Int) + (b : Int)) = ((i0 + b : Nat) : Int) := (IntWalk.i64_in _ (by omega)).trans (by omega)
  obtain ⟨⟨f1, f2⟩, ⟨f3, f4⟩, f5, f6⟩ := HFIN.out a b hab hbd
  obtain ⟨X, hX⟩ : ∃ X, secAt xss p (i0 + a) (i0 + b) = X := ⟨_, rfl⟩
  obtain ⟨Q, hQ⟩ : ∃ Q, b - a + 1 = Q := ⟨_, rfl⟩
  rw [hX] at f2 f4 f5 f6
  rw [hQ] at f5
  have hQN : Q ≤ 1048576 := by omega
  clear hQ
  have F1 := Lib.hid f1
  have F2 := Lib.hid f2
  have F3 := Lib.hid f3
  have F4 := Lib.hid f4
  have F5 := Lib.hid f5
  have F6 := Lib.hid f6
  have HLL := Lib.hid (show (ffR L 0).length = R by rw [E1.out.1, ER.out])
  clear f1 f2 f3 f4 f5 f6 hX HFIN
  obtain ⟨hc2, hc3⟩ := ownSS_cap (S7.out.sep.ownSS (i := 1) rfl)
  have hb0 := (S7.out.blk (i := 2) rfl).cell (i := 0) rfl
  go_wp2_with fail
  refine (iSectionAt_any 0 (a : Int) (b : Int) _ ER.out (ownSS_rd (S7.out.sep.ownSS (i := 1) rfl)) hRN HLR.out hc2 hc3).mono ?_
  rintro e w8 ⟨A8, c8, rfl, own, bel⟩
  rw [F2.out, F5.out] at own
  rw [F2.out, F1.out, F5.out]
  obtain ⟨v8, st_⟩ := S7.out.addRows bel own (Nat.le_refl _) (Nat.le_refl _)
  have S8 := Lib.hid (st_.addBlk #[.slice A8 Q c8] 26)
  clear bel own st_ S7 hb0
  have hb0 := (S8.out.blk (i := 0) rfl).cell (i := 0) rfl
  go_wp2_with fail
  refine (iSectionAt_any (p : Int) ((i0 + a : Nat) : Int) ((i0 + b : Nat) : Int) _ HX.out (HA.out.keep S8.out.below) hN HR.out hcap hc63).mono ?_
  rintro e w9 ⟨A9, c9, rfl, own, bel⟩
  rw [F4.out, F5.out] at own
  rw [F4.out, F3.out, F5.out]
  obtain ⟨v9, st_⟩ := S8.out.addRows bel own (Nat.le_refl _) (Nat.le_refl _)
  have S9 := Lib.hid (st_.addBlk #[.slice A9 Q c9] 26)
  clear bel own st_ S8 hb0
  have hb0 := (S9.out.blk (i := 2) rfl).cell (i := 0) rfl
  go_wp2_with fail
  refine (iFormFrom_any 0 _ ER.out (ownSS_rd (S9.out.sep.ownSS (i := 1) rfl)) hRN HLR.out).mono ?_
  rintro e w10 ⟨A10, c10, rfl, own, bel⟩
  rw [E1.out.1, ER.out] at own
  rw [E1.out.1, E1.out.2, ER.out]
  obtain ⟨v10, st_⟩ := S9.out.addRows bel own (Nat.le_refl _) (Nat.le_refl _)
  have S10 := Lib.hid (st_.addBlk #[.slice A10 R c10] 26)
  clear bel own st_ S9 hb0
  have hb0 := (S10.out.blk (i := 2) rfl).cell (i := 0) rfl
  go_wp2_with fail
  refine (iTypeOf_any _ ER.out (ownSS_rd (S10.out.sep.ownSS (i := 1) rfl)) hRN HLR.out hc2 hc3).mono ?_
  rintro e w11 ⟨A11, c11, rfl, own, bel⟩
  rw [E2.out.1, T1L.out] at own
  rw [E2.out.1, E2.out.2, T1L.out]
  obtain ⟨v11, st_⟩ := S10.out.addRows bel own (Nat.le_refl _) (Nat.le_refl _)
  have S11 := Lib.hid st_
  clear bel own st_ S10 hb0
  have hb0 := (S11.out.blk (i := 0) rfl).cell (i := 0) rfl
  go_wp2_with fail
  refine (iTypeOf_any _ HX.out (HA.out.keep S11.out.below) hN HR.out hcap hc63).mono ?_
  rintro e w12 ⟨A12, c12, rfl, own, bel⟩
  rw [E3.out.1, T2L.out] at own
  rw [E3.out.1, E3.out.2, T2L.out]
  obtain ⟨v12, st_⟩ := S11.out.addRows bel own (Nat.le_refl _) (Nat.le_refl _)
  have S12 := Lib.hid st_
  clear bel own st_ S11 hb0
  have hnn : ((d : Int) != (d : Int)) = false := by simp
  have hnk : ¬ (M2 : Int) < (k0 : Int) := by omega
  have hbi := (S12.out.blk (i := 4) rfl).cell (i := 0) rfl
  have hbj := (S12.out.blk (i := 6) rfl).cell (i := 0) rfl
  have hbk := (S12.out.blk (i := 8) rfl).cell (i := 0) rfl
  have hbl := (S12.out.blk (i := 2) rfl).cell (i := 0) rfl
  have RI := Lib.hid (ownSS_rd (S12.out.sep.ownSS (i := 3) rfl))
  have RJ := Lib.hid (ownSS_rd (S12.out.sep.ownSS (i := 5) rfl))
  go_wp2_with fail
  refine (like5_any (n := Q) (m := Q) (xss := X) (yss := X) (r := true) _ F5.out F5.out RI.out RJ.out (by omega) (by omega) F6.out F6.out (decide_eq_true rfl)).mono ?_
  rintro e w13 ⟨rfl, bel⟩
  have S13 := Lib.hid (S12.out.go bel)
  clear bel S12 RI RJ hbi hbj
  clear hbk hbl
  have hbi := (S13.out.blk (i := 8) rfl).cell (i := 0) rfl
  have hbj := (S13.out.blk (i := 2) rfl).cell (i := 0) rfl
  have RI := Lib.hid (ownSS_rd (S13.out.sep.ownSS (i := 7) rfl))
  have RJ := Lib.hid (ownSS_rd (S13.out.sep.ownSS (i := 1) rfl))
  go_wp2_with fail
  refine (like5_any (n := R) (m := R) (xss := L) (yss := L) (r := true) _ ER.out ER.out RI.out RJ.out (by omega) (by omega) HLR.out HLR.out (decide_eq_true rfl)).mono ?_
  rintro e w14 ⟨rfl, bel⟩
  have S14 := Lib.hid (S13.out.go bel)
  clear bel S13 RI RJ hbi hbj
  have S15 := Lib.hid (S14.out.pick (Qs := [.rows 2 28 A11 d c11 v11 (tyL L (flN L) d), .rows 2 28 A12 M2 c12 v12 (tyL xss (flN xss) M2)]) (fun i => i + 9) (fun i hi => by simp at hi ⊢; omega) (fun i hi => by match i, hi with | 0, _ => rfl | 1, _ => rfl) (fun i j _ _ h => by omega))
  clear S14
  go_wp2
  go_loopw [24] (fun v wr => ∃ j : Nat, j ≤ d ∧ v = .int .i64 j ∧ St w1 wr [.rows 2 28 A11 d c11 v11 (tyL L (flN L) d), .rows 2 28 A12 M2 c12 v12 (tyL xss (flN xss) M2)]) (fun v _ => d - (intOf v).toNat)
  case atStart => exact ⟨0, Nat.zero_le _, rfl, S15.out⟩
  case round =>
    obtain ⟨j, hj, rfl, st⟩ := hrel
    clear S15 hnn hnk
    by_cases hjd : j < d
    · have jI : (j : Int) < (d : Int) := by omega
      have jN : i0 + j < M2 := by omega
      obtain ⟨bo, oo, Ao, co, P1, rfl, hg1, hcP, hrP, _⟩ := (ownSS_rd (st.sep.ownSS (i := 0) rfl)).row (k := j) (by rw [T1L.out]; exact hjd)
      have hP1 := hg1
      rw [tyL_at hjd] at hP1
      injection hP1 with hP1
      obtain ⟨m, hm⟩ : ∃ m, P1.length = m := ⟨_, rfl⟩
      have hm4 : m ≤ 400 := by rw [← hm, ← hP1]; exact Nat.le_trans polL_le hsl
      have HSUB := Lib.hid (show ∀ x ∈ P1, x ∈ polL ((xss.drop (i0 + j)).take 2) (flN xss) from fun x hx => HPOL.out j x hjd (by rw [hP1]; exact hx))
      rw [hm] at hcP
      have HM := Lib.hid hm
      have HG1 := Lib.hid hg1
      have HCP := Lib.hid hcP
      have S16 := Lib.hid st
      clear hg1 hrP hP1 hm st
      go_wp2
      go_loopw [25] (fun v wr => ∃ k : Nat, k ≤ m ∧ v = .int .i64 k ∧ St w1 wr [.rows 2 28 (some ⟨bo, oo, none⟩) d c11 v11 (tyL L (flN L) d), .rows 2 28 A12 M2 c12 v12 (tyL xss (flN xss) M2)]) (fun v _ => m - (intOf v).toNat)
      case atStart => exact ⟨0, Nat.zero_le _, rfl, S16.out⟩
      case round =>
        obtain ⟨k, hk, rfl, st⟩ := hrel
        clear S16
        obtain ⟨b1, o1, A1r, c1r, P2, he1, hg2, hc2r, hr2, _⟩ := (ownSS_rd (st.sep.ownSS (i := 0) rfl)).row (k := j) (by rw [T1L.out]; exact hjd)
        obtain ⟨rfl, rfl⟩ : bo = b1 ∧ oo = o1 := by simpa using he1
        rw [HG1.out] at hg2
        injection hg2 with hg2
        subst hg2
        rw [HM.out] at hc2r
        by_cases hkm : k < m
        · have kI : (k : Int) < (m : Int) := by omega
          obtain ⟨b2, o2, x, rfl, hgx, hcx⟩ := hr2.int (k := k) (by rw [HM.out]; exact hkm)
          obtain ⟨ij, hij⟩ : ∃ ij, i0 + j = ij := ⟨_, rfl⟩
          have jM : ij < M2 := by omega
          obtain ⟨b3, o3, A3r, c3r, P3, rfl, hg3, hc3r, hr3, _⟩ := (ownSS_rd (st.sep.ownSS (i := 1) rfl)).row (k := ij) (by rw [T2L.out]; exact jM)
          have hP3 := hg3
          rw [tyL_at jM, ← hij] at hP3
          injection hP3 with hP3
          obtain ⟨m3, hm3⟩ : ∃ m3, P3.length = m3 := ⟨_, rfl⟩
          have hm34 : m3 ≤ 1048576 := by rw [← hm3, ← hP3]; exact Nat.le_trans polL_le (by omega)
          have hin : decide (x ∈ P3) = true := decide_eq_true (by rw [← hP3]; exact HSUB.out x (List.mem_of_getElem? hgx))
          rw [hm3] at hc3r
          have ijI : (ij : Int) < (M2 : Int) := by omega
          have q8 : IntKind.i64.wrap ((i0 : Int) + (j : Int)) = (ij : Int) := (IntWalk.i64_in _ (by omega)).trans (by omega)
          clear hij
          have HM3 := Lib.hid hm3
          have HR3 := Lib.hid hr3
          have HIN := Lib.hid hin
          have S17 := Lib.hid st
          clear st hgx hr2 he1 hg3 hP3 hm3 hr3 hin
          go_wp2
          go_quiet ((go_at_call 43; exact quiet_one fun W hW => hasInt_any x W HM3.out (hW ▸ HR3.out) hm34 HIN.out))
          go_wp2
          go_roundw
          case rel => exact ⟨k + 1, by omega, by go_num, S17.out.go (below_drewN (Below.refl _ _) _)⟩
          case measure => simp [intOf]; omega
        · obtain rfl : k = m := by omega
          have S17 := Lib.hid st
          clear st hr2 he1
          go_wp2
          go_roundw
          case rel => exact ⟨j + 1, by omega, by go_num, S17.out⟩
          case measure => simp [intOf]; omega
    · obtain rfl : j = d := by omega
      have S16 := Lib.hid st
      clear st
      go_wp2
      go_ret
      exact ⟨rfl, B1.out.trans (S16.out.below.mono B1.out.size)⟩
theorem walk_FnSections (a0 : Option Addr) (len0 cap0 : Nat) (z0 : List Int) (w : World) (w0 : IsRow .u8 w a0 len0 cap0 z0) :
    Calls Try.prog 6 #[.slice a0 len0 cap0] w fun e w' => e = .returned (.bool true) ∧ Below w.heap.size w w' := by
  obtain ⟨bs, h1, h2, h3⟩ := isRow_u8 w0
  exact law_FnSections w h1 h2 h3
end Go.Proofs.Ytckmmgepoccopaa
