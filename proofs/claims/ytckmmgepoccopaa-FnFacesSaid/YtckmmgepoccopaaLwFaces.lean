import Derived.Test.YtckmmgepoccopaaFcn
namespace Go.Proofs.Ytckmmgepoccopaa
open Go.RowKit

theorem Rd.nil3 {w : World} {A : Option Addr} : Rd w A (ints []) := fun h => absurd h (by simp)
set_option maxHeartbeats 6400000 in
set_option maxRecDepth 100000 in
theorem law_FnFaces {A0 : Option Addr} {c0 n0 : Nat} {bs : List Value} (w : World) (hl : bs.length = n0) (hr : Rd w A0 bs) (hu : ∀ v ∈ bs, ∃ x : Nat, v = .int .u8 x ∧ x < 256) :
    Calls Try.prog 3 #[.slice A0 n0 c0] w fun e w' => e = .returned (.bool true) ∧ Below w.heap.size w w' := by
  have HL0 := Lib.hid hl
  have HR0 := Lib.hid hr
  have HU := Lib.hid hu
  have B0 := Lib.hid (Below.refl w.heap.size w)
  clear hl hr hu
  by_cases hbig : (4096 : Int) < (n0 : Int)
  · go_enter Try.func3, Try.ntmps3
    go_wp2_with fail
    refine (big_any w).mono ?_
    rintro e wz ⟨rfl, rfl⟩
    rw [decide_eq_true (show (4096 : Int) < (n0 : Int) by omega)]
    go_wp2
    go_ret
    exact ⟨rfl, B0.out⟩
  have hn0 : n0 ≤ 1048576 := by omega
  go_enter Try.func3, Try.ntmps3
  go_wp2_with fail
  refine (big_any w).mono ?_
  rintro e wz ⟨rfl, rfl⟩
  rw [decide_eq_false (show ¬ (4096 : Int) < (n0 : Int) by omega)]
  go_wp2_with fail
  refine (drawFc w HL0.out HR0.out HU.out hn0).mono ?_
  rintro e w1 ⟨A1, N, c1, xss, rfl, hx, hN6, hrr, hcap, hc63, hrd, bel1⟩
  have HX := Lib.hid hx
  have HA := Lib.hid hrd
  have HR := Lib.hid hrr
  have B1 := Lib.hid bel1
  have hN : N ≤ 1048576 := by omega
  have S1 := Lib.hid ((St.start w1).addBlk #[.slice A1 N c1] 26)
  have hx0 := hx
  clear hx hrd hrr bel1 B0 HR0
  cases ho : okMan xss
  · have e1 : fcR xss = [] := by simp [fcR, ho]
    have e4 : manC xss = 1 := by simp [manC, ho]
    have E1 := Lib.hid e1
    have E4 := Lib.hid e4
    have HO := Lib.hid ho
    clear ho e1 e4
    have hbx := (S1.out.blk (i := 0) rfl).cell (i := 0) rfl
    go_wp2_with fail
    refine (iFaceCounts_any _ HX.out (HA.out.keep S1.out.below) hN HR.out hcap hc63).mono ?_
    rintro e w2 ⟨A2, c2, rfl, own, bel⟩
    rw [E1.out] at own
    rw [E1.out, E4.out]
    have S2 := Lib.hid (S1.out.addOwn bel own (Nat.le_refl _))
    clear bel hbx S1 own
    have hbx := (S2.out.blk (i := 0) rfl).cell (i := 0) rfl
    go_wp2_with fail
    refine (sFaceCounts_any _ HX.out (HA.out.keep S2.out.below) hN HR.out).mono ?_
    rintro e w3 ⟨A3, c3, rfl, own, bel⟩
    rw [E1.out] at own
    rw [E1.out, E4.out]
    have S3 := Lib.hid (S2.out.addOwn bel own (Nat.le_refl _))
    clear bel hbx S2 own
    have hne : ((1 : Int) != 1) = false := rfl
    go_wp2_with fail
    refine (likeB (n := 0) (m := 0) (xs := []) (ys := []) _ rfl rfl Rd.nil3 Rd.nil3 (by omega)).mono ?_
    rintro e w4 ⟨rfl, bel⟩
    rw [decide_eq_true (show ([] : List Int) = [] from rfl)]
    have S4 := Lib.hid (S3.out.go bel)
    clear bel S3
    have hbx := (S4.out.blk (i := 0) rfl).cell (i := 0) rfl
    go_wp2_with fail
    refine (iMan_any _ HX.out (HA.out.keep S4.out.below) hN HR.out).mono ?_
    rintro e w5 ⟨rfl, bel⟩
    rw [HO.out]
    have S5 := Lib.hid (S4.out.go bel)
    clear bel hbx S4
    go_wp2
    go_ret
    exact ⟨rfl, B1.out.trans (S5.out.below.mono B1.out.size)⟩
  · have hman := okMan_iff.1 ho
    have hsys := hman.sys
    have hn4 := hman.f4
    have hn2 := hman.f2
    have hpos := hman.pos hx0
    have hN5 := hman.r5
    rw [hx0] at hN5
    obtain ⟨b, o, A01, c01, rfl, hc0⟩ := man_row0 hman HA.out
    obtain ⟨n, hn⟩ : ∃ n, flN xss = n := ⟨_, rfl⟩
    rw [hn] at hc0 hsys hn4 hn2
    obtain ⟨C, hC⟩ : ∃ C, cntTo xss n N = C := ⟨_, rfl⟩
    have e1 : fcR xss = C := by simp [fcR, ho, hn, hx0, hC]
    have e4 : manC xss = 0 := by simp [manC, ho]
    have e5 : euR xss = eulTo C N := by simp [euR, ho, hn, hx0, hC]
    have hCl : C.length = N := by rw [← hC, cntTo_len]
    have hCat : ∀ i, i < N → C[i]? = some ((orbsTo (xss.eraseIdx i) n n).length : Int) := fun i hi => by
      rw [← hC, cntTo_at hi, fac_cnt hsys (by omega)]
    have hCb := eulTo_bd (cnt_in (N := N) hsys)
    rw [hC] at hCb
    have hflr : ∀ i : Nat, i < N → flR xss (i : Int) = facL xss n i ∧ flC xss (i : Int) = 0 := fun i hi => by
      have h1 : flagB N (i : Int) = true := by simp [flagB]; omega
      simp [flR, flC, ho, hn, hx0, h1]
    have HFLR := Lib.hid hflr
    have HC0 := Lib.hid hc0
    have HS := Lib.hid hsys
    have HCL := Lib.hid hCl
    have HCA := Lib.hid hCat
    have HCB := Lib.hid hCb
    have E1 := Lib.hid e1
    have E4 := Lib.hid e4
    have E5 := Lib.hid e5
    have HO := Lib.hid ho
    clear ho hman hsys hc0 e1 e4 e5 hn hx0 hC hCl hCat hCb hflr
    have hbx := (S1.out.blk (i := 0) rfl).cell (i := 0) rfl
    go_wp2_with fail
    refine (iFaceCounts_any _ HX.out (HA.out.keep S1.out.below) hN HR.out hcap hc63).mono ?_
    rintro e w2 ⟨A2, c2, rfl, own, bel⟩
    rw [E1.out, HCL.out] at own
    rw [E1.out, E4.out, HCL.out]
    have S2 := Lib.hid (S1.out.addOwn bel own (Nat.le_refl _))
    clear bel hbx S1 own
    have hbx := (S2.out.blk (i := 0) rfl).cell (i := 0) rfl
    go_wp2_with fail
    refine (sFaceCounts_any _ HX.out (HA.out.keep S2.out.below) hN HR.out).mono ?_
    rintro e w3 ⟨A3, c3, rfl, own, bel⟩
    rw [E1.out, HCL.out] at own
    rw [E1.out, E4.out, HCL.out]
    have S3 := Lib.hid (S2.out.addOwn bel own (Nat.le_refl _))
    clear bel hbx S2 own
    have hne : ((0 : Int) != 0) = false := rfl
    have RA := Lib.hid (own_rd (S3.out.own (i := 1) rfl))
    have RB := Lib.hid (own_rd (S3.out.own (i := 2) rfl))
    go_wp2_with fail
    refine (likeB (n := N) (m := N) _ HCL.out HCL.out RA.out RB.out (by omega)).mono ?_
    rintro e w4 ⟨rfl, bel⟩
    rw [decide_eq_true rfl]
    have S4 := Lib.hid (S3.out.go bel)
    clear bel S3 RA RB
    have hbx := (S4.out.blk (i := 0) rfl).cell (i := 0) rfl
    go_wp2_with fail
    refine (iMan_any _ HX.out (HA.out.keep S4.out.below) hN HR.out).mono ?_
    rintro e w5 ⟨rfl, bel⟩
    rw [HO.out]
    have S5 := Lib.hid (S4.out.go bel)
    clear bel hbx S4
    go_wp2
    clear hne
    go_loopw [8, 9, 10] (fun u s v wr => ∃ (i : Nat) (T z : Int), i ≤ N ∧ u = .int .i64 T ∧ s = .int .i64 z ∧ v = .int .i64 i ∧ T = eulTo C i ∧ z = (if i % 2 = 0 then 1 else -1) ∧ St w1 wr [.blk w1.heap.size #[.slice (some ⟨b, o, none⟩) N c1] 26, .own 2 A2 N c2 (ints C), .own 2 A3 N c3 (ints C)]) (fun _ _ v _ => N - (intOf v).toNat)
    case atStart => exact ⟨0, 0, 1, Nat.zero_le _, rfl, rfl, rfl, rfl, rfl, S5.out⟩
    case round =>
      obtain ⟨i, T, z, hi, rfl, rfl, rfl, hT, hz, st⟩ := hrel
      have HT := Lib.hid hT
      have HZ := Lib.hid hz
      have S6 := Lib.hid st
      clear S5 st hT hz
      have hbx := (S6.out.blk (i := 0) rfl).cell (i := 0) rfl
      by_cases hiN : i < N
      · have iI : (i : Int) < (N : Int) := by omega
        go_wp2_with fail
        refine (iFaceLabels_any i _ HX.out (HA.out.keep S6.out.below) hN HR.out hcap hc63).mono ?_
        rintro e w6 ⟨A6, c6, rfl, own, bel⟩
        rw [(HFLR.out i hiN).1, facL_len] at own
        rw [(HFLR.out i hiN).1, (HFLR.out i hiN).2, facL_len]
        have S7 := Lib.hid (S6.out.addOwn bel own (Nat.le_refl _))
        clear bel own hbx S6
        have hbx := (S7.out.blk (i := 0) rfl).cell (i := 0) rfl
        go_wp2_with fail
        refine (flags5_any (n := n) (c0 := c01) (A0 := A01) _ hpos (cell_be HC0.out S7.out.below)).mono ?_
        rintro e w7 ⟨rfl, bel⟩
        have S8 := Lib.hid (S7.out.go bel)
        clear bel hbx S7
        have hnn : ((n : Int) != (n : Int)) = false := by simp
        go_wp2
        clear hnn
        go_loopw [13, 14] (fun u v wr => ∃ f : Nat, f ≤ n ∧ u = .int .i64 ((orbsTo (xss.eraseIdx i) n f).length : Nat) ∧ v = .int .i64 f ∧ St w1 wr [.blk w1.heap.size #[.slice (some ⟨b, o, none⟩) N c1] 26, .own 2 A2 N c2 (ints C), .own 2 A3 N c3 (ints C), .own 2 A6 n c6 (ints (facL xss n i))]) (fun _ v _ => n - (intOf v).toNat)
        case atStart => exact ⟨0, Nat.zero_le _, rfl, rfl, S8.out⟩
        case round =>
          obtain ⟨f, hf, rfl, rfl, st⟩ := hrel
          have S9 := Lib.hid st
          clear S8 st
          obtain ⟨M, hM⟩ : ∃ M, (orbsTo (xss.eraseIdx i) n f).length = M := ⟨_, rfl⟩
          have hMn : M ≤ f := by rw [← hM]; exact orbsTo_le HS.out hf
          rw [hM]
          have hbx := (S9.out.blk (i := 0) rfl).cell (i := 0) rfl
          go_wp2_with fail
          refine (flags5_any (n := n) (c0 := c01) (A0 := A01) _ hpos (cell_be HC0.out S9.out.below)).mono ?_
          rintro e w9 ⟨rfl, bel⟩
          have S10 := Lib.hid (S9.out.go bel)
          clear bel hbx S9
          by_cases hfn : f < n
          · have fI : (f : Int) < (n : Int) := by omega
            obtain ⟨j, hj, hcase⟩ := fac_next (i := i) HS.out hfn
            obtain ⟨M', hM'⟩ : ∃ M', (orbsTo (xss.eraseIdx i) n (f + 1)).length = M' := ⟨_, rfl⟩
            rw [hM, hM'] at hcase
            have HM' := Lib.hid hM'
            have hj0 : ¬ (j : Int) < 0 := by omega
            have hjM : ¬ (M : Int) < (j : Int) := by omega
            obtain ⟨gD, rfl⟩ := own_shape (S10.out.own (i := 3) rfl) (show 0 < n by omega)
            have cj := own_cell (S10.out.own (i := 3) rfl) (show (ints (facL xss n i))[f]? = some (.int .i64 (j : Int)) by simp [hj])
            have HJ := Lib.hid hj
            have hcs : ((j : Int) == (M : Int)) = decide (M' = M + 1) := by
              rcases hcase with ⟨h1, h2⟩ | ⟨h1, h2⟩
              · have : ((j : Int) == (M : Int)) = false := by rw [beq_eq_false_iff_ne]; omega
                rw [this, decide_eq_false (by omega)]
              · have : ((j : Int) == (M : Int)) = true := by rw [beq_iff_eq]; omega
                rw [this, decide_eq_true (by omega)]
            clear hM hM' hj
            by_cases hnew : M' = M + 1
            · rw [decide_eq_true hnew] at hcs
              subst hnew
              go_wp2
              go_loopw [15] (fun v wr => ∃ k : Nat, k ≤ N ∧ v = .int .i64 k ∧ St w1 wr [.blk w1.heap.size #[.slice (some ⟨b, o, none⟩) N c1] 26, .own 2 A2 N c2 (ints C), .own 2 A3 N c3 (ints C), .own 2 (some ⟨gD, 0, none⟩) n c6 (ints (facL xss n i))]) (fun v _ => N - (intOf v).toNat)
              case atStart => exact ⟨0, Nat.zero_le _, rfl, S10.out⟩
              case round =>
                obtain ⟨k, hk, rfl, st⟩ := hrel
                have hbx := (st.blk (i := 0) rfl).cell (i := 0) rfl
                have S11 := Lib.hid st
                by_cases hkN : k < N
                · have kI : (k : Int) < (N : Int) := by omega
                  by_cases hki : k = i
                  · subst hki
                    have hkk : ((k : Int) != (k : Int)) = false := by simp
                    clear st
                    go_wp2
                    go_quiet (fail)
                    go_wp2
                    go_roundw
                    case rel => exact ⟨k + 1, by omega, by go_num, S11.out.go (below_drewN (Below.refl _ _) _)⟩
                    case measure => simp [intOf]; omega
                  · have hkk : ((k : Int) != (i : Int)) = true := by rw [bne_iff_ne]; omega
                    obtain ⟨b3, o3, A4, c4, g, he, hg, hcg, hrg, _⟩ := (HA.out.keep st.below).row (k := k) (by rw [HX.out]; exact hkN)
                    obtain ⟨rfl, rfl⟩ : b = b3 ∧ o = o3 := by simpa using he
                    have hgl := sys_len HS.out hg
                    obtain ⟨l, hl⟩ : ∃ l, g.length = l := ⟨_, rfl⟩
                    have hln : l = n := by omega
                    subst hln
                    rw [hl] at hcg
                    obtain ⟨b4, o4, y, rfl, hgy, hcy⟩ := hrg.int (k := f) (by omega)
                    obtain ⟨y, rfl, hy0⟩ := sys_at HS.out hg hgy
                    have hyn : y < l := by omega
                    have yI : (y : Int) < (l : Int) := hy0
                    have hjy := fac_move HS.out hg hki hfn hyn hgy HJ.out
                    have cj1 := own_cell (st.own (i := 3) rfl) (show (ints (facL xss l i))[f]? = some (.int .i64 (j : Int)) by simp [HJ.out])
                    have cj2 := own_cell (st.own (i := 3) rfl) (show (ints (facL xss l i))[y]? = some (.int .i64 (j : Int)) by simp [hjy])
                    have hjj : ((j : Int) != (j : Int)) = false := by simp
                    clear st he hg hgl hl hrg hgy hjy
                    go_wp2
                    go_quiet (fail)
                    go_wp2
                    go_roundw
                    case rel => exact ⟨k + 1, by omega, by go_num, S11.out.go (below_drewN (Below.refl _ _) _)⟩
                    case measure => simp [intOf]; omega
                · have kI : ¬ (k : Int) < (N : Int) := by omega
                  clear st
                  go_wp2
                  go_roundw
                  case rel => exact ⟨f + 1, by omega, by first | (rw [HM'.out]; done) | (rw [HM'.out]; go_num), by go_num, S11.out⟩
                  case measure => simp [intOf]; omega
            · rw [decide_eq_false hnew] at hcs
              have hold : M' = M := by omega
              subst hold
              go_wp2
              go_loopw [15] (fun v wr => ∃ k : Nat, k ≤ N ∧ v = .int .i64 k ∧ St w1 wr [.blk w1.heap.size #[.slice (some ⟨b, o, none⟩) N c1] 26, .own 2 A2 N c2 (ints C), .own 2 A3 N c3 (ints C), .own 2 (some ⟨gD, 0, none⟩) n c6 (ints (facL xss n i))]) (fun v _ => N - (intOf v).toNat)
              case atStart => exact ⟨0, Nat.zero_le _, rfl, S10.out⟩
              case round =>
                obtain ⟨k, hk, rfl, st⟩ := hrel
                have hbx := (st.blk (i := 0) rfl).cell (i := 0) rfl
                have S11 := Lib.hid st
                by_cases hkN : k < N
                · have kI : (k : Int) < (N : Int) := by omega
                  by_cases hki : k = i
                  · subst hki
                    have hkk : ((k : Int) != (k : Int)) = false := by simp
                    clear st
                    go_wp2
                    go_quiet (fail)
                    go_wp2
                    go_roundw
                    case rel => exact ⟨k + 1, by omega, by go_num, S11.out.go (below_drewN (Below.refl _ _) _)⟩
                    case measure => simp [intOf]; omega
                  · have hkk : ((k : Int) != (i : Int)) = true := by rw [bne_iff_ne]; omega
                    obtain ⟨b3, o3, A4, c4, g, he, hg, hcg, hrg, _⟩ := (HA.out.keep st.below).row (k := k) (by rw [HX.out]; exact hkN)
                    obtain ⟨rfl, rfl⟩ : b = b3 ∧ o = o3 := by simpa using he
                    have hgl := sys_len HS.out hg
                    obtain ⟨l, hl⟩ : ∃ l, g.length = l := ⟨_, rfl⟩
                    have hln : l = n := by omega
                    subst hln
                    rw [hl] at hcg
                    obtain ⟨b4, o4, y, rfl, hgy, hcy⟩ := hrg.int (k := f) (by omega)
                    obtain ⟨y, rfl, hy0⟩ := sys_at HS.out hg hgy
                    have hyn : y < l := by omega
                    have yI : (y : Int) < (l : Int) := hy0
                    have hjy := fac_move HS.out hg hki hfn hyn hgy HJ.out
                    have cj1 := own_cell (st.own (i := 3) rfl) (show (ints (facL xss l i))[f]? = some (.int .i64 (j : Int)) by simp [HJ.out])
                    have cj2 := own_cell (st.own (i := 3) rfl) (show (ints (facL xss l i))[y]? = some (.int .i64 (j : Int)) by simp [hjy])
                    have hjj : ((j : Int) != (j : Int)) = false := by simp
                    clear st he hg hgl hl hrg hgy hjy
                    go_wp2
                    go_quiet (fail)
                    go_wp2
                    go_roundw
                    case rel => exact ⟨k + 1, by omega, by go_num, S11.out.go (below_drewN (Below.refl _ _) _)⟩
                    case measure => simp [intOf]; omega
                · have kI : ¬ (k : Int) < (N : Int) := by omega
                  clear st
                  go_wp2
                  go_roundw
                  case rel => exact ⟨f + 1, by omega, by first | (rw [HM'.out]; done) | (rw [HM'.out]; go_num), by go_num, S11.out⟩
                  case measure => simp [intOf]; omega
          · obtain rfl : f = n := by omega
            have hcc := HCA.out i hiN
            rw [hM] at hcc
            obtain ⟨gC, rfl⟩ := own_shape (S10.out.own (i := 1) rfl) (show 0 < N by omega)
            have ccl := own_cell (S10.out.own (i := 1) rfl) (show (ints C)[i]? = some (.int .i64 (M : Int)) by simp [hcc])
            have hTb := HCB.out i
            rw [← HT.out] at hTb
            have hmm : ((M : Int) != (M : Int)) = false := by simp
            have hgd : C.getD i 0 = (M : Int) := by simp [List.getD, hcc]
            have S11 := Lib.hid (S10.out.take 3)
            clear hcc hM
            by_cases hpar : i % 2 = 0
            · have hz1 : z = 1 := by rw [HZ.out, if_pos hpar]
              subst hz1
              have HE := Lib.hid (show eulTo C (i + 1) = T + (M : Int) by rw [eulTo, if_pos hpar, ← HT.out, hgd])
              clear hgd
              go_wp2
              go_roundw
              case rel => exact ⟨i + 1, _, _, by omega, rfl, rfl, by go_num, by first | (rw [HE.out]; done) | (rw [HE.out]; first | rfl | omega), by first | (rw [if_neg (by omega)]; done) | (rw [if_neg (by omega)]; first | rfl | omega), S11.out⟩
              case measure => simp [intOf]; omega
            · have hz1 : z = -1 := by rw [HZ.out, if_neg hpar]
              subst hz1
              have HE := Lib.hid (show eulTo C (i + 1) = T - (M : Int) by rw [eulTo, if_neg hpar, ← HT.out, hgd])
              clear hgd
              go_wp2
              go_roundw
              case rel => exact ⟨i + 1, _, _, by omega, rfl, rfl, by go_num, by first | (rw [HE.out]; done) | (rw [HE.out]; first | rfl | omega), by first | (rw [if_pos (by omega)]; done) | (rw [if_pos (by omega)]; first | rfl | omega), S11.out⟩
              case measure => simp [intOf]; omega
      · obtain rfl : i = N := by omega
        have iI : ¬ (i : Int) < (i : Int) := by omega
        rw [HT.out]
        go_wp2_with fail
        refine (iEulerCharacteristic_any _ HX.out (HA.out.keep S6.out.below) hN HR.out hcap hc63).mono ?_
        rintro e w6 ⟨rfl, bel⟩
        rw [E5.out, E4.out]
        have S7 := Lib.hid (S6.out.go bel)
        obtain ⟨X, hX⟩ : ∃ X, eulTo C i = X := ⟨_, rfl⟩
        rw [hX]
        clear bel hbx S6 hX
        go_wp2
        go_ret
        exact ⟨rfl, B1.out.trans (S7.out.below.mono B1.out.size)⟩
theorem walk_FnFaces (a0 : Option Addr) (len0 cap0 : Nat) (z0 : List Int) (w : World) (w0 : IsRow .u8 w a0 len0 cap0 z0) :
    Calls Try.prog 3 #[.slice a0 len0 cap0] w fun e w' => e = .returned (.bool true) ∧ Below w.heap.size w w' := by
  obtain ⟨bs, h1, h2, h3⟩ := isRow_u8 w0
  exact law_FnFaces w h1 h2 h3
end Go.Proofs.Ytckmmgepoccopaa
