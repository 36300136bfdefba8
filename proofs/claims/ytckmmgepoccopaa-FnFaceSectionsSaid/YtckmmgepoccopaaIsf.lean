/- slices.Index; impl.leastFlagOf, FaceAsManiplex, CofaceAsManiplex. -/
import Derived.Test.YtckmmgepoccopaaL17
import Derived.Test.YtckmmgepoccopaaL13
namespace Go.Proofs.Ytckmmgepoccopaa
open Go.RowKit

theorem iidx_any {A : Option Addr} {c n : Nat} {l : List Int} (x : Int) (w : World) (hx : l.length = n) (ha : Rd w A (ints l)) (hn : n ≤ 1048576) :
    Calls Try.prog 143 #[.slice A n c, .int .i64 x] w fun e w' => e = .returned (.int .i64 (idxL l x)) ∧ w = w' := by
  have HX := Lib.hid hx
  have HA := Lib.hid ha
  clear hx ha
  go_enter Try.func143, Try.ntmps143
  go_wp2
  go_loop [8] (fun i => ∃ k : Nat, k ≤ n ∧ i = .int .i64 k ∧ ∀ j : Nat, j < k → l[j]? ≠ some x) (fun i => n - (intOf i).toNat)
  case atStart => exact ⟨0, Nat.zero_le _, rfl, fun j h => absurd h (by omega)⟩
  case round =>
    obtain ⟨k, hk, rfl, hall⟩ := hrel
    have HALL := Lib.hid hall
    clear hall
    by_cases hlt : k < n
    · obtain ⟨b, o, y, rfl, hgy, hcy⟩ := HA.out.int (k := k) (by rw [HX.out]; exact hlt)
      have HG := Lib.hid hgy
      clear hgy
      by_cases he : x = y
      · subst he
        have hb : (x == x) = true := by simp
        have HS := Lib.hid (idxL_some HG.out HALL.out)
        go_wp2
        go_ret
        exact ⟨ret_i64 HS.out.symm, rfl⟩
      · have hb : (x == y) = false := by rw [beq_eq_false_iff_ne]; exact he
        have HS := Lib.hid (show ∀ j : Nat, j < k + 1 → l[j]? ≠ some x from fun j hj => by
          rcases Nat.lt_succ_iff_lt_or_eq.1 hj with h | rfl
          · exact HALL.out j h
          · rw [HG.out]; intro h; injection h with h; exact he h.symm)
        clear he
        go_wp2
        go_round
        case rel => exact ⟨k + 1, by omega, by go_num, HS.out⟩
        case measure => simp [intOf]; omega
    · have HS := Lib.hid (idxL_none (l := l) (x := x) fun j hj => HALL.out j (by rw [HX.out] at hj; omega))
      go_wp2
      go_ret
      exact ⟨ret_i64 HS.out.symm, rfl⟩

theorem fcC_s (xss : List (List Int)) (i y s : Int) : fcC xss i y s = if fcC xss i y (-1) = 0 then (if i = s then 5 else 0) else fcC xss i y (-1) := by
  unfold fcC
  by_cases ho : okMan xss = true
  · simp only [if_pos ho]
    by_cases hf : flagB xss.length i = true
    · have hi : ¬ i = -1 := by simp [flagB] at hf; omega
      simp only [if_pos hf]
      by_cases hx : idxL (facL xss (flN xss) i.toNat) y < 0
      · simp only [if_pos hx]; simp
      · simp only [if_neg hx, if_neg hi, if_true]
    · simp only [if_neg hf]; simp
  · simp only [if_neg ho]; simp
theorem fcF_s (xss : List (List Int)) (i y s : Int) (h : fcC xss i y s = 0) : fcF xss i y (-1) = fcF xss i y s := by
  have h2 := h
  rw [fcC_s] at h2
  have h3 : fcC xss i y (-1) = 0 := by
    by_cases h4 : fcC xss i y (-1) = 0
    · exact h4
    · rw [if_neg h4] at h2; exact h2
  simp [fcF, h, h3]

set_option maxHeartbeats 1600000 in
theorem iLeastFlag_any {A : Option Addr} {c N : Nat} {xss : List (List Int)} (i y : Int) (w : World) (hx : xss.length = N) (ha : RdSS w A xss) (hN : N ≤ 1048576) (hr : ∀ xs ∈ xss, (xs.length : Int) ≤ 1048576) (hcap : N ≤ c) (hc63 : c ≤ 9223372036854775807) :
    Calls Try.prog 108 #[.agg #[.slice A N c], .int .i64 i, .int .i64 y] w fun e w' => e = .returned (.tuple #[.int .i64 (fcF xss i y (-1)), .int .i64 (fcC xss i y (-1))]) ∧ Below w.heap.size w w' := by
  have HX := Lib.hid hx
  have HA := Lib.hid ha
  have HR := Lib.hid hr
  have st0 := (St.start w).addBlk #[.slice A N c] 26
  have S0 := Lib.hid st0
  have hbc := (st0.blk (i := 0) rfl).cell (i := 0) rfl
  clear st0
  by_cases hc : flC xss i = 0
  · have hob : okMan xss = true ∧ flagB xss.length i = true := by
      unfold flC at hc
      split at hc
      · rename_i h1
        split at hc
        · rename_i h2; exact ⟨h1, h2⟩
        · simp at hc
      · simp at hc
    obtain ⟨ho, hf⟩ := hob
    obtain ⟨p, rfl, hp⟩ := flagB_true hf
    obtain ⟨n, hn⟩ : ∃ n, flN xss = n := ⟨_, rfl⟩
    have hn4 := (okMan_iff.1 ho).f4
    rw [hn] at hn4
    have hL : flR xss p = facL xss n p := by simp [flR, ho, hf, hn]
    obtain ⟨x, hxi⟩ : ∃ x, idxL (facL xss n p) y = x := ⟨_, rfl⟩
    have h2 : fcC xss p y (-1) = if x < 0 then 2 else 0 := by
      have : ¬ (p : Int) = -1 := by omega
      simp [fcC, ho, hf, hn, hxi, this]
    have h3 : fcF xss p y (-1) = if x < 0 then 0 else x := by
      by_cases h : x < 0
      · simp [fcF, h2, h]
      · simp [fcF, h2, h, hn, hxi]
    rw [h2, h3]
    have HL := Lib.hid hL
    have HC := Lib.hid hc
    have HXI := Lib.hid hxi
    have HLN := Lib.hid (facL_len xss n p)
    clear hx ha hr ho hf hn h2 h3 hL hc hxi hp
    by_cases hx0 : x < 0
    · rw [if_pos hx0, if_pos hx0]
      go_enter Try.func108, Try.ntmps108
      go_wp2_with fail
      refine (iFaceLabels_any p _ HX.out (HA.out.keep S0.out.below) hN HR.out hcap hc63).mono ?_
      rintro e w1 ⟨A1, c1, rfl, own, bel⟩
      rw [HL.out, HLN.out] at own
      rw [HC.out, HL.out, HLN.out]
      have S1 := Lib.hid (S0.out.go bel)
      have OW := Lib.hid own
      clear bel own hbc
      go_wp2_with fail
      refine (iidx_any _ _ HLN.out (own_rd OW.out) (by omega)).mono ?_
      rintro e w2 ⟨rfl, rfl⟩
      rw [HXI.out]
      go_wp2
      go_ret2
      exact ⟨rfl, S1.out.below⟩
    · rw [if_neg hx0, if_neg hx0]
      go_enter Try.func108, Try.ntmps108
      go_wp2_with fail
      refine (iFaceLabels_any p _ HX.out (HA.out.keep S0.out.below) hN HR.out hcap hc63).mono ?_
      rintro e w1 ⟨A1, c1, rfl, own, bel⟩
      rw [HL.out, HLN.out] at own
      rw [HC.out, HL.out, HLN.out]
      have S1 := Lib.hid (S0.out.go bel)
      have OW := Lib.hid own
      clear bel own hbc
      go_wp2_with fail
      refine (iidx_any _ _ HLN.out (own_rd OW.out) (by omega)).mono ?_
      rintro e w2 ⟨rfl, rfl⟩
      rw [HXI.out]
      go_wp2
      go_ret2
      exact ⟨rfl, S1.out.below⟩
  · obtain ⟨C, hC⟩ : ∃ C, flC xss i = C := ⟨_, rfl⟩
    have h2 : fcC xss i y (-1) = C := by
      rw [← hC]
      unfold flC at hc ⊢
      unfold fcC
      by_cases ho : okMan xss = true
      · by_cases hf : flagB xss.length i = true
        · simp [ho, hf] at hc
        · simp [ho, hf]
      · simp [ho]
    have h3 : fcF xss i y (-1) = 0 := by
      unfold fcF
      rw [h2, ← hC, if_neg hc]
    rw [h2, h3]
    rw [hC] at hc
    have HC := Lib.hid hC
    have hne : (C != 0) = true := by simpa using hc
    clear hx ha hr h2 h3 hC hc
    go_enter Try.func108, Try.ntmps108
    go_wp2_with fail
    refine (iFaceLabels_any i _ HX.out (HA.out.keep S0.out.below) hN HR.out hcap hc63).mono ?_
    rintro e w1 ⟨A1, c1, rfl, own, bel⟩
    rw [HC.out]
    have S1 := Lib.hid (S0.out.go bel)
    clear bel own hbc
    go_wp2
    go_ret2
    exact ⟨rfl, S1.out.below⟩

set_option maxHeartbeats 3200000 in
set_option maxRecDepth 8000 in
theorem iFaceAsManiplex_any {A : Option Addr} {c N : Nat} {xss : List (List Int)} (i y : Int) (w : World) (hx : xss.length = N) (ha : RdSS w A xss) (hN : N ≤ 1048576) (hr : ∀ xs ∈ xss, (xs.length : Int) ≤ 1048576) (hcap : N ≤ c) (hc63 : c ≤ 9223372036854775807) :
    Calls Try.prog 45 #[.agg #[.slice A N c], .int .i64 i, .int .i64 y] w (RetMC w (fmR xss i y) (fcC xss i y 0)) := by
  have HX := Lib.hid hx
  have HA := Lib.hid ha
  have HR := Lib.hid hr
  have st0 := ((St.start w).addBlk #[.slice A N c] 26).addBlk #[.slice none 0 0] 26
  simp at st0
  have S0 := Lib.hid st0
  have hbc := (st0.blk (i := 0) rfl).cell (i := 0) rfl
  clear st0
  have hjN : IntKind.i64.wrap ((N : Int) - 1) = (N : Int) - 1 := IntWalk.i64_in _ (by omega)
  obtain ⟨s, hs⟩ : ∃ s : Int, s = 0 := ⟨_, rfl⟩
  have hC0 : fcC xss i y 0 = fcC xss i y s := by rw [hs]
  have hR0 : fmR xss i y = if fcC xss i y s = 0 then secAt xss (fcF xss i y s).toNat 0 (i.toNat - 1) else [] := by rw [hs]; rfl
  rw [hC0, hR0]
  clear hC0 hR0
  by_cases hl : fcC xss i y (-1) = 0
  · have hcs := fcC_s xss i y s
    rw [if_pos hl] at hcs
    have hl2 := hl
    rw [show (-1 : Int) = -1 from rfl] at hl2
    obtain ⟨ho, hf, hi0, _⟩ := fcC_zero hl
    obtain ⟨p, rfl, hp⟩ := flagB_true hf
    have hman := okMan_iff.1 ho
    have hsys := hman.sys
    have hN5 := hman.r5
    have hpos := hman.pos hx
    rw [hx] at hN5 hp
    obtain ⟨b, o, A0, c0, rfl, hc0⟩ := man_row0 hman ha
    obtain ⟨n, hn⟩ : ∃ n, flN xss = n := ⟨_, rfl⟩
    have hfc : fcF xss p y (-1) = idxL (facL xss n p) y := by simp [fcF, hl, hn]
    rw [hn] at hc0 hsys
    simp only [Int.toNat_natCast] at hi0
    rw [hn] at hi0
    have hib := (idxL_bd (facL xss n p) y).2
    rw [facL_len] at hib
    obtain ⟨f, hf2⟩ := Int.eq_ofNat_of_zero_le hi0
    rw [hf2] at hib hfc
    have HC0 := Lib.hid hc0
    have HS := Lib.hid hsys
    have HC := Lib.hid hl
    have HFC := Lib.hid hfc
    have hfn : f < n := by omega
    by_cases his : (p : Int) = s
    · rw [if_pos his] at hcs
      rw [hcs, if_neg (by simp)]

      have hpz : ((p : Int) == 0) = true := by rw [beq_iff_eq, his, hs]
      clear hx ha hr ho hman hn hc0 hsys hl hl2 hf hf2 hi0 hfc hib hcs hs his
      go_enter Try.func45, Try.ntmps45
      go_wp2_with fail
      refine (iLeastFlag_any _ _ _ HX.out (HA.out.keep S0.out.below) hN HR.out hcap hc63).mono ?_
      rintro e w1 ⟨rfl, bel⟩
      rw [HC.out, HFC.out]
      have S1 := Lib.hid (S0.out.go bel)
      clear bel hbc
      have hbc := (S1.out.blk (i := 0) rfl).cell (i := 0) rfl
      have z0 := (S1.out.blk (i := 1) rfl).cell (i := 0) rfl
      have f0 := (S1.out.blk (i := 1) rfl).free 0
      go_wp2
      have st4 := S1.out.blkSet (i := 1) rfl 0 (.slice none 0 0)
      have y0 := (st4.blk (i := 1) rfl).cell (i := 0) rfl
      refine bodyPost_ret (v := .tuple #[.agg #[.slice none 0 0], .int .i64 5]) (by simp [results, Try.results45, go_sem, y0]) rfl ⟨none, 0, rfl, ownSS_nil _ _ _ _, st4.below⟩
    · rw [if_neg his] at hcs
      have hfs := fcF_s xss p y s hcs
      rw [hfc] at hfs
      rw [hcs, if_pos rfl, ← hfs]
      simp only [Int.toNat_natCast]
      obtain ⟨k, hk⟩ : ∃ k, p - 1 = k := ⟨_, rfl⟩
      rw [hk]
      have HSEC := Lib.hid (show secAt xss f 0 k = secL ((xss.drop 0).take (k + 1 - 0)) n f by rw [secAt, hn])
      have hik' : 0 ≤ k := by omega
      have hkN : k < N := by omega
      have hjk : IntKind.i64.wrap ((p : Int) - 1) = (k : Int) := (IntWalk.i64_in _ (by omega)).trans (by omega)
      have hpz : ((p : Int) == 0) = false := by rw [beq_eq_false_iff_ne]; omega
      clear hx ha hr ho hman hn hc0 hsys hl hl2 hf hf2 hi0 hfc hib hcs hs his hfs
      go_enter Try.func45, Try.ntmps45
      go_wp2_with fail
      refine (iLeastFlag_any _ _ _ HX.out (HA.out.keep S0.out.below) hN HR.out hcap hc63).mono ?_
      rintro e w1 ⟨rfl, bel⟩
      rw [HC.out, HFC.out]
      have S1 := Lib.hid (S0.out.go bel)
      clear bel hbc
      have hbc := (S1.out.blk (i := 0) rfl).cell (i := 0) rfl
      go_wp2_with fail
      refine (isec_any _ (i := 0) HX.out (HA.out.keep S1.out.below) HS.out (cell_be HC0.out S1.out.below) hfn hik' hkN hcap hc63 (by omega)).mono ?_
      rintro e w5 ⟨A2, c2, rfl, own2, bel2⟩
      obtain ⟨vals, st⟩ := S1.out.addRows bel2 own2 (Nat.le_refl _) (Nat.le_refl _)
      rw [← HSEC.out] at st ⊢
      obtain ⟨l, hl⟩ : ∃ l, (secAt xss f 0 k).length = l := ⟨_, rfl⟩
      rw [hl] at st ⊢
      have z0 := (st.blk (i := 1) rfl).cell (i := 0) rfl
      have f0 := (st.blk (i := 1) rfl).free 0
      have HL := Lib.hid hl
      have S5 := Lib.hid st
      clear st own2 bel2 hbc hl
      go_wp2
      have st4 := S5.out.blkSet (i := 1) rfl 0 (.slice A2 l c2)
      have y0 := (st4.blk (i := 1) rfl).cell (i := 0) rfl
      refine bodyPost_ret (v := .tuple #[.agg #[.slice A2 l c2], .int .i64 0]) (by simp [results, Try.results45, go_sem, y0]) rfl ⟨A2, c2, by rw [HL.out], ?_, st4.below⟩
      rw [HL.out]
      exact st4.sep.ownSS (i := 2) rfl
  · have hcs := fcC_s xss i y s
    rw [if_neg hl] at hcs
    obtain ⟨C, hC⟩ : ∃ C, fcC xss i y (-1) = C := ⟨_, rfl⟩
    have hfc : fcF xss i y (-1) = 0 := by simp [fcF, hl]
    rw [hC] at hcs hl
    rw [hcs, if_neg hl]
    have HC := Lib.hid hC
    have HFC := Lib.hid hfc
    have hne : (C != 0) = true := by simpa using hl
    clear hx ha hr hC hl hfc hcs hs
    go_enter Try.func45, Try.ntmps45
    go_wp2_with fail
    refine (iLeastFlag_any _ _ _ HX.out (HA.out.keep S0.out.below) hN HR.out hcap hc63).mono ?_
    rintro e w1 ⟨rfl, bel⟩
    rw [HC.out, HFC.out]
    have S1 := Lib.hid (S0.out.go bel)
    clear bel hbc
    have hbc := (S1.out.blk (i := 0) rfl).cell (i := 0) rfl
    have z0 := (S1.out.blk (i := 1) rfl).cell (i := 0) rfl
    have f0 := (S1.out.blk (i := 1) rfl).free 0
    go_wp2
    have st4 := S1.out.blkSet (i := 1) rfl 0 (.slice none 0 0)
    have y0 := (st4.blk (i := 1) rfl).cell (i := 0) rfl
    refine bodyPost_ret (v := .tuple #[.agg #[.slice none 0 0], .int .i64 C]) (by simp [results, Try.results45, go_sem, y0]) rfl ⟨none, 0, rfl, ownSS_nil _ _ _ _, st4.below⟩

set_option maxHeartbeats 3200000 in
set_option maxRecDepth 8000 in
theorem iCofaceAsManiplex_any {A : Option Addr} {c N : Nat} {xss : List (List Int)} (i y : Int) (w : World) (hx : xss.length = N) (ha : RdSS w A xss) (hN : N ≤ 1048576) (hr : ∀ xs ∈ xss, (xs.length : Int) ≤ 1048576) (hcap : N ≤ c) (hc63 : c ≤ 9223372036854775807) :
    Calls Try.prog 47 #[.agg #[.slice A N c], .int .i64 i, .int .i64 y] w (RetMC w (cmR xss i y) (cmC xss i y)) := by
  have HX := Lib.hid hx
  have HA := Lib.hid ha
  have HR := Lib.hid hr
  have st0 := ((St.start w).addBlk #[.slice A N c] 26).addBlk #[.slice none 0 0] 26
  simp at st0
  have S0 := Lib.hid st0
  have hbc := (st0.blk (i := 0) rfl).cell (i := 0) rfl
  clear st0
  have hjN : IntKind.i64.wrap ((N : Int) - 1) = (N : Int) - 1 := IntWalk.i64_in _ (by omega)
  obtain ⟨s, hs⟩ : ∃ s : Int, s = ((N : Int) - 1) := ⟨_, rfl⟩
  have hC0 : cmC xss i y = fcC xss i y s := by rw [cmC, hs, hx]
  have hR0 : cmR xss i y = if fcC xss i y s = 0 then secAt xss (fcF xss i y s).toNat (i.toNat + 1) (xss.length - 1) else [] := by rw [cmR, hC0, hs, hx]
  rw [hC0, hR0]
  clear hC0 hR0
  by_cases hl : fcC xss i y (-1) = 0
  · have hcs := fcC_s xss i y s
    rw [if_pos hl] at hcs
    have hl2 := hl
    rw [show (-1 : Int) = -1 from rfl] at hl2
    obtain ⟨ho, hf, hi0, _⟩ := fcC_zero hl
    obtain ⟨p, rfl, hp⟩ := flagB_true hf
    have hman := okMan_iff.1 ho
    have hsys := hman.sys
    have hN5 := hman.r5
    have hpos := hman.pos hx
    rw [hx] at hN5 hp
    obtain ⟨b, o, A0, c0, rfl, hc0⟩ := man_row0 hman ha
    obtain ⟨n, hn⟩ : ∃ n, flN xss = n := ⟨_, rfl⟩
    have hfc : fcF xss p y (-1) = idxL (facL xss n p) y := by simp [fcF, hl, hn]
    rw [hn] at hc0 hsys
    simp only [Int.toNat_natCast] at hi0
    rw [hn] at hi0
    have hib := (idxL_bd (facL xss n p) y).2
    rw [facL_len] at hib
    obtain ⟨f, hf2⟩ := Int.eq_ofNat_of_zero_le hi0
    rw [hf2] at hib hfc
    have HC0 := Lib.hid hc0
    have HS := Lib.hid hsys
    have HC := Lib.hid hl
    have HFC := Lib.hid hfc
    have hfn : f < n := by omega
    by_cases his : (p : Int) = s
    · rw [if_pos his] at hcs
      rw [hcs, if_neg (by simp)]

      have HPI := Lib.hid his
      have hpb : ((p : Int) == (N : Int) - 1) = true := by rw [beq_iff_eq, his, hs]
      clear hx ha hr ho hman hn hc0 hsys hl hl2 hf hf2 hi0 hfc hib hcs hs his
      go_enter Try.func47, Try.ntmps47
      go_wp2_with fail
      refine (iLeastFlag_any _ _ _ HX.out (HA.out.keep S0.out.below) hN HR.out hcap hc63).mono ?_
      rintro e w1 ⟨rfl, bel⟩
      rw [HC.out, HFC.out]
      have S1 := Lib.hid (S0.out.go bel)
      clear bel hbc
      have hbc := (S1.out.blk (i := 0) rfl).cell (i := 0) rfl
      go_wp2_with fail
      refine (rank_bel _).mono ?_
      rintro e w2 ⟨rfl, bel⟩
      have S2 := Lib.hid (S1.out.go bel)
      clear bel hbc
      have hbc := (S2.out.blk (i := 0) rfl).cell (i := 0) rfl
      have z0 := (S2.out.blk (i := 1) rfl).cell (i := 0) rfl
      have f0 := (S2.out.blk (i := 1) rfl).free 0
      go_wp2
      have st4 := S2.out.blkSet (i := 1) rfl 0 (.slice none 0 0)
      have y0 := (st4.blk (i := 1) rfl).cell (i := 0) rfl
      refine bodyPost_ret (v := .tuple #[.agg #[.slice none 0 0], .int .i64 5]) (by simp [results, Try.results47, go_sem, y0]) rfl ⟨none, 0, rfl, ownSS_nil _ _ _ _, st4.below⟩
    · rw [if_neg his] at hcs
      have hfs := fcF_s xss p y s hcs
      rw [hfc] at hfs
      rw [hcs, if_pos rfl, ← hfs]
      simp only [Int.toNat_natCast, hx]
      obtain ⟨k, hk⟩ : ∃ k, N - 1 = k := ⟨_, rfl⟩
      obtain ⟨i1, hi1⟩ : ∃ x, p + 1 = x := ⟨_, rfl⟩
      rw [hk, hi1]
      have HSEC := Lib.hid (show secAt xss f i1 k = secL ((xss.drop i1).take (k + 1 - i1)) n f by rw [secAt, hn])
      have hik' : i1 ≤ k := by omega
      have hkN : k < N := by omega
      have hjk : IntKind.i64.wrap ((p : Int) + 1) = (i1 : Int) := (IntWalk.i64_in _ (by omega)).trans (by omega)
      have hjN2 : IntKind.i64.wrap ((N : Int) - 1) = (k : Int) := hjN.trans (by omega)
      have hpz : ((p : Int) == (k : Int)) = false := by rw [beq_eq_false_iff_ne]; omega
      clear hx ha hr ho hman hn hc0 hsys hl hl2 hf hf2 hi0 hfc hib hcs hs his hfs hi1 hk hjN
      go_enter Try.func47, Try.ntmps47
      go_wp2_with fail
      refine (iLeastFlag_any _ _ _ HX.out (HA.out.keep S0.out.below) hN HR.out hcap hc63).mono ?_
      rintro e w1 ⟨rfl, bel⟩
      rw [HC.out, HFC.out]
      have S1 := Lib.hid (S0.out.go bel)
      clear bel hbc
      have hbc := (S1.out.blk (i := 0) rfl).cell (i := 0) rfl
      go_wp2_with fail
      refine (rank_bel _).mono ?_
      rintro e w2 ⟨rfl, bel⟩
      have S2 := Lib.hid (S1.out.go bel)
      clear bel hbc
      have hbc := (S2.out.blk (i := 0) rfl).cell (i := 0) rfl
      have Sd := Lib.hid (S2.out.go (below_drewN (Below.refl _ _) 1))
      go_wp2
      go_region_law ((first
        | (go_simp; go_at_call 105
           refine (rank_bel _).mono ?_
           rintro e w4 ⟨rfl, bel4⟩
           have S4 := Lib.hid (Sd.out.go bel4)
           have hbc4 := (S4.out.blk (i := 0) rfl).cell (i := 0) rfl)
        | (go_simp; go_at_call 100
           refine (isec_any _ (i := i1) HX.out (HA.out.keep S4.out.below) HS.out (cell_be HC0.out S4.out.below) hfn hik' hkN hcap hc63 (by omega)).mono ?_
           rintro e w5 ⟨A2, c2, rfl, own2, bel2⟩
           obtain ⟨vals, st⟩ := S4.out.addRows bel2 own2 (Nat.le_refl _) (Nat.le_refl _)
           rw [← HSEC.out] at st
           rw [← HSEC.out]
           obtain ⟨l, hl⟩ : ∃ l, (secAt xss f i1 k).length = l := ⟨_, rfl⟩
           rw [hl] at st
           rw [hl]
           have z0 := (st.blk (i := 1) rfl).cell (i := 0) rfl
           have f0 := (st.blk (i := 1) rfl).free 0
           have HL := Lib.hid hl
           have S5 := Lib.hid st
           clear st own2 bel2 hl)))
      all_goals
        have st4 := S5.out.blkSet (i := 1) rfl 0 (.slice A2 l c2)
        have y0 := (st4.blk (i := 1) rfl).cell (i := 0) rfl
        go_wp2
        refine bodyPost_ret (v := .tuple #[.agg #[.slice A2 l c2], .int .i64 0]) (by simp [results, Try.results47, go_sem, y0]) rfl ⟨A2, c2, by rw [HL.out], ?_, st4.below⟩
        rw [HL.out]
        exact st4.sep.ownSS (i := 2) rfl
  · have hcs := fcC_s xss i y s
    rw [if_neg hl] at hcs
    obtain ⟨C, hC⟩ : ∃ C, fcC xss i y (-1) = C := ⟨_, rfl⟩
    have hfc : fcF xss i y (-1) = 0 := by simp [fcF, hl]
    rw [hC] at hcs hl
    rw [hcs, if_neg hl]
    have HC := Lib.hid hC
    have HFC := Lib.hid hfc
    have hne : (C != 0) = true := by simpa using hl
    clear hx ha hr hC hl hfc hcs hs
    go_enter Try.func47, Try.ntmps47
    go_wp2_with fail
    refine (iLeastFlag_any _ _ _ HX.out (HA.out.keep S0.out.below) hN HR.out hcap hc63).mono ?_
    rintro e w1 ⟨rfl, bel⟩
    rw [HC.out, HFC.out]
    have S1 := Lib.hid (S0.out.go bel)
    clear bel hbc
    have hbc := (S1.out.blk (i := 0) rfl).cell (i := 0) rfl
    have z0 := (S1.out.blk (i := 1) rfl).cell (i := 0) rfl
    have f0 := (S1.out.blk (i := 1) rfl).free 0
    go_wp2
    have st4 := S1.out.blkSet (i := 1) rfl 0 (.slice none 0 0)
    have y0 := (st4.blk (i := 1) rfl).cell (i := 0) rfl
    refine bodyPost_ret (v := .tuple #[.agg #[.slice none 0 0], .int .i64 C]) (by simp [results, Try.results47, go_sem, y0]) rfl ⟨none, 0, rfl, ownSS_nil _ _ _ _, st4.below⟩

end Go.Proofs.Ytckmmgepoccopaa
