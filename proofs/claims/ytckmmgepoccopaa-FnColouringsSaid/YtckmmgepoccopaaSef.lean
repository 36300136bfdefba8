/- spec.FaceAsManiplex, CofaceAsManiplex. -/
import Derived.Test.YtckmmgepoccopaaSex
namespace Go.Proofs.Ytckmmgepoccopaa
open Go.RowKit

noncomputable def fcC (xss : List (List Int)) (i y s : Int) : Int := if okMan xss = true then (if flagB xss.length i = true then (if idxL (facL xss (flN xss) i.toNat) y < 0 then 2 else (if i = s then 5 else 0)) else 2) else 1
noncomputable def fcF (xss : List (List Int)) (i y s : Int) : Int := if fcC xss i y s = 0 then idxL (facL xss (flN xss) i.toNat) y else 0
theorem fcC_zero {xss : List (List Int)} {i y s : Int} (h : fcC xss i y s = 0) : okMan xss = true ∧ flagB xss.length i = true ∧ 0 ≤ idxL (facL xss (flN xss) i.toNat) y ∧ i ≠ s := by
  unfold fcC at h
  split at h
  · rename_i h1
    split at h
    · rename_i h2
      split at h
      · simp at h
      · rename_i h3
        split at h
        · simp at h
        · rename_i h4
          exact ⟨h1, h2, by omega, h4⟩
    · simp at h
  · simp at h

set_option maxHeartbeats 1600000 in
theorem sFace_any {A : Option Addr} {c N : Nat} {xss : List (List Int)} (i y s : Int) (w : World) (hx : xss.length = N) (ha : RdSS w A xss) (hN : N ≤ 1048576) (hr : ∀ xs ∈ xss, (xs.length : Int) ≤ 1048576) :
    Calls Try.prog 109 #[.agg #[.slice A N c], .int .i64 i, .int .i64 y, .int .i64 s] w fun e w' => e = .returned (.tuple #[.int .i64 (fcF xss i y s), .int .i64 (fcC xss i y s)]) ∧ Below w.heap.size w w' := by
  have HX := Lib.hid hx
  have HA := Lib.hid ha
  have HR := Lib.hid hr
  have st0 := (St.start w).addBlk #[.slice A N c] 26
  have S0 := Lib.hid st0
  have hbc := (st0.blk (i := 0) rfl).cell (i := 0) rfl
  clear st0
  cases ho : okMan xss
  · have h2 : fcC xss i y s = 1 := by simp [fcC, ho]
    have h3 : fcF xss i y s = 0 := by simp [fcF, h2]
    rw [h2, h3]
    have HO := Lib.hid ho
    clear hx ha hr ho h2 h3
    go_enter Try.func109, Try.ntmps109
    go_wp2_with fail
    refine (sIs_any _ HX.out (HA.out.keep S0.out.below) hN HR.out).mono ?_
    rintro e w1 ⟨rfl, bel⟩
    rw [HO.out]
    have S1 := Lib.hid (S0.out.go bel)
    clear bel hbc
    go_wp2
    go_ret2
    exact ⟨rfl, S1.out.below⟩
  · have hman := okMan_iff.1 ho
    have hsys := hman.sys
    have hn4 := hman.f4
    have hpos := hman.pos hx
    obtain ⟨b, o, A0, c0, rfl, hc0⟩ := man_row0 hman ha
    obtain ⟨n, hn⟩ : ∃ n, flN xss = n := ⟨_, rfl⟩
    rw [hn] at hc0 hn4 hsys
    have HC0 := Lib.hid hc0
    have HS := Lib.hid hsys
    have HO := Lib.hid ho
    have hj : IntKind.i64.wrap ((N : Int) - 1) = (N : Int) - 1 := IntWalk.i64_in _ (by omega)
    cases hf : flagB N i
    · have h2 : fcC xss i y s = 2 := by simp [fcC, ho, hx, hf]
      have h3 : fcF xss i y s = 0 := by simp [fcF, h2]
      rw [h2, h3]
      have HF := Lib.hid hf
      clear hx ha hr ho hman hn hc0 h2 h3 hf hsys
      go_enter Try.func109, Try.ntmps109
      go_wp2_with fail
      refine (sIs_any _ HX.out (HA.out.keep S0.out.below) hN HR.out).mono ?_
      rintro e w1 ⟨rfl, bel⟩
      rw [HO.out]
      have S1 := Lib.hid (S0.out.go bel)
      clear bel hbc
      have hbc := (S1.out.blk (i := 0) rfl).cell (i := 0) rfl
      go_wp2_with fail
      refine (sRank_val _ HF.out).mono ?_
      rintro e w2 ⟨rfl, bel⟩
      have S2 := Lib.hid (S1.out.go bel)
      clear bel hbc
      go_wp2
      go_ret2
      exact ⟨rfl, S2.out.below⟩
    · obtain ⟨p, rfl, hp⟩ := flagB_true hf
      obtain ⟨x, hxi⟩ : ∃ x, idxL (facL xss n p) y = x := ⟨_, rfl⟩
      have h2 : fcC xss p y s = if x < 0 then 2 else (if (p : Int) = s then 5 else 0) := by simp [fcC, ho, hx, hf, hn, hxi]
      have h3 : fcF xss p y s = if fcC xss p y s = 0 then x else 0 := by simp [fcF, hn, hxi]
      rw [h3, h2]
      have HF := Lib.hid hf
      have HXI := Lib.hid hxi
      clear hx ha hr ho hman hn hc0 h2 h3 hf hsys hxi
      by_cases hx0 : x < 0
      · rw [if_pos hx0, if_neg (by simp)]
        go_enter Try.func109, Try.ntmps109
        go_wp2_with fail
        refine (sIs_any _ HX.out (HA.out.keep S0.out.below) hN HR.out).mono ?_
        rintro e w1 ⟨rfl, bel⟩
        rw [HO.out]
        have S1 := Lib.hid (S0.out.go bel)
        clear bel hbc
        have hbc := (S1.out.blk (i := 0) rfl).cell (i := 0) rfl
        go_wp2_with fail
        refine (sRank_val _ HF.out).mono ?_
        rintro e w2 ⟨rfl, bel⟩
        have S2 := Lib.hid (S1.out.go bel)
        clear bel hbc
        have hbc := (S2.out.blk (i := 0) rfl).cell (i := 0) rfl
        go_wp2_with fail
        refine (sfaces_any w2 HX.out (HA.out.keep S2.out.below) HS.out (cell_be HC0.out S2.out.below) hp).mono ?_
        rintro e w3 ⟨A3, c3, rfl, own3, bel3⟩
        have S3 := Lib.hid (S2.out.go bel3)
        have OW3 := Lib.hid own3
        clear bel3 own3 hbc
        go_wp2_with fail
        refine (index_any _ _ (facL_len _ _ _) (own_rd OW3.out) (by omega)).mono ?_
        rintro e w4 ⟨rfl, rfl⟩
        rw [HXI.out]
        go_wp2
        go_ret2
        exact ⟨rfl, S3.out.below⟩
      · rw [if_neg hx0]
        by_cases hps : (p : Int) = s
        · rw [if_pos hps, if_neg (by simp)]
          subst hps
          go_enter Try.func109, Try.ntmps109
          go_wp2_with fail
          refine (sIs_any _ HX.out (HA.out.keep S0.out.below) hN HR.out).mono ?_
          rintro e w1 ⟨rfl, bel⟩
          rw [HO.out]
          have S1 := Lib.hid (S0.out.go bel)
          clear bel hbc
          have hbc := (S1.out.blk (i := 0) rfl).cell (i := 0) rfl
          go_wp2_with fail
          refine (sRank_val _ HF.out).mono ?_
          rintro e w2 ⟨rfl, bel⟩
          have S2 := Lib.hid (S1.out.go bel)
          clear bel hbc
          have hbc := (S2.out.blk (i := 0) rfl).cell (i := 0) rfl
          go_wp2_with fail
          refine (sfaces_any w2 HX.out (HA.out.keep S2.out.below) HS.out (cell_be HC0.out S2.out.below) hp).mono ?_
          rintro e w3 ⟨A3, c3, rfl, own3, bel3⟩
          have S3 := Lib.hid (S2.out.go bel3)
          have OW3 := Lib.hid own3
          clear bel3 own3 hbc
          go_wp2_with fail
          refine (index_any _ _ (facL_len _ _ _) (own_rd OW3.out) (by omega)).mono ?_
          rintro e w4 ⟨rfl, rfl⟩
          rw [HXI.out]
          go_wp2
          go_ret2
          exact ⟨rfl, S3.out.below⟩
        · rw [if_neg hps, if_pos rfl]
          have hpb : ((p : Int) == s) = false := by rw [beq_eq_false_iff_ne]; exact hps
          go_enter Try.func109, Try.ntmps109
          go_wp2_with fail
          refine (sIs_any _ HX.out (HA.out.keep S0.out.below) hN HR.out).mono ?_
          rintro e w1 ⟨rfl, bel⟩
          rw [HO.out]
          have S1 := Lib.hid (S0.out.go bel)
          clear bel hbc
          have hbc := (S1.out.blk (i := 0) rfl).cell (i := 0) rfl
          go_wp2_with fail
          refine (sRank_val _ HF.out).mono ?_
          rintro e w2 ⟨rfl, bel⟩
          have S2 := Lib.hid (S1.out.go bel)
          clear bel hbc
          have hbc := (S2.out.blk (i := 0) rfl).cell (i := 0) rfl
          go_wp2_with fail
          refine (sfaces_any w2 HX.out (HA.out.keep S2.out.below) HS.out (cell_be HC0.out S2.out.below) hp).mono ?_
          rintro e w3 ⟨A3, c3, rfl, own3, bel3⟩
          have S3 := Lib.hid (S2.out.go bel3)
          have OW3 := Lib.hid own3
          clear bel3 own3 hbc
          go_wp2_with fail
          refine (index_any _ _ (facL_len _ _ _) (own_rd OW3.out) (by omega)).mono ?_
          rintro e w4 ⟨rfl, rfl⟩
          rw [HXI.out]
          go_wp2
          go_ret2
          exact ⟨rfl, S3.out.below⟩

noncomputable def fmR (xss : List (List Int)) (i y : Int) : List (List Int) := if fcC xss i y 0 = 0 then secAt xss (fcF xss i y 0).toNat 0 (i.toNat - 1) else []
noncomputable def cmC (xss : List (List Int)) (i y : Int) : Int := fcC xss i y ((xss.length : Int) - 1)
noncomputable def cmR (xss : List (List Int)) (i y : Int) : List (List Int) := if cmC xss i y = 0 then secAt xss (fcF xss i y ((xss.length : Int) - 1)).toNat (i.toNat + 1) (xss.length - 1) else []

set_option maxHeartbeats 1600000 in
theorem sFaceAsManiplex_any {A : Option Addr} {c N : Nat} {xss : List (List Int)} (i y : Int) (w : World) (hx : xss.length = N) (ha : RdSS w A xss) (hN : N ≤ 1048576) (hr : ∀ xs ∈ xss, (xs.length : Int) ≤ 1048576) (hcap : N ≤ c) (hc63 : c ≤ 9223372036854775807) :
    Calls Try.prog 46 #[.agg #[.slice A N c], .int .i64 i, .int .i64 y] w (RetMC w (fmR xss i y) (fcC xss i y 0)) := by
  have HX := Lib.hid hx
  have HA := Lib.hid ha
  have HR := Lib.hid hr
  have st0 := ((St.start w).addBlk #[.slice A N c] 26).addBlk #[.slice none 0 0] 26
  simp at st0
  have S0 := Lib.hid st0
  have hbc := (st0.blk (i := 0) rfl).cell (i := 0) rfl
  have hjN : IntKind.i64.wrap ((N : Int) - 1) = (N : Int) - 1 := IntWalk.i64_in _ (by omega)
  clear st0
  by_cases hc : fcC xss i y 0 = 0
  · obtain ⟨ho, hf, hi0, his⟩ := fcC_zero hc
    obtain ⟨p, rfl, hp⟩ := flagB_true hf
    have hfc : fcF xss p y 0 = idxL (facL xss (flN xss) p) y := by simp [fcF, hc]
    have h1 : fmR xss p y = secAt xss (fcF xss p y 0).toNat 0 (p - 1) := by simp [fmR, hc]
    rw [h1, hc]
    have hman := okMan_iff.1 ho
    have hsys := hman.sys
    have hN5 := hman.r5
    rw [hx] at hN5 hp
    obtain ⟨b, o, A0, c0, rfl, hc0⟩ := man_row0 hman ha
    obtain ⟨n, hn⟩ : ∃ n, flN xss = n := ⟨_, rfl⟩
    rw [hn] at hc0 hsys hfc
    simp only [Int.toNat_natCast] at hi0
    rw [hn] at hi0
    have hib := (idxL_bd (facL xss n p) y).2
    rw [facL_len] at hib
    obtain ⟨f, hf2⟩ := Int.eq_ofNat_of_zero_le hi0
    rw [hf2] at hib hfc
    rw [hfc]
    simp only [Int.toNat_natCast]
    have HC0 := Lib.hid hc0
    have HS := Lib.hid hsys
    have HC := Lib.hid hc
    have HFC := Lib.hid hfc
    obtain ⟨k, hk⟩ : ∃ k, p - 1 = k := ⟨_, rfl⟩
    rw [hk]
    have HSEC := Lib.hid (show secAt xss f 0 k = secL ((xss.drop 0).take (k + 1 - 0)) n f by rw [secAt, hn])
    have hfn : f < n := by omega
    have hik' : 0 ≤ k := by omega
    have hkN : k < N := by omega
    have hjk : IntKind.i64.wrap ((p : Int) - 1) = (k : Int) := (IntWalk.i64_in _ (by omega)).trans (by omega)
    clear hx ha hr ho hman hn hc0 hsys hc h1 hf hf2 hi0 his hfc hib
    go_enter Try.func46, Try.ntmps46
    go_wp2_with fail
    refine (sFace_any _ _ _ _ HX.out (HA.out.keep S0.out.below) hN HR.out).mono ?_
    rintro e w1 ⟨rfl, bel⟩
    rw [HC.out, HFC.out]
    have S1 := Lib.hid (S0.out.go bel)
    clear bel hbc
    have hbc := (S1.out.blk (i := 0) rfl).cell (i := 0) rfl
    go_wp2_with fail
    refine (ssec_any _ (i := 0) HX.out (HA.out.keep S1.out.below) HS.out (cell_be HC0.out S1.out.below) hfn hik' hkN hcap hc63 (by omega)).mono ?_
    rintro e w2 ⟨A2, c2, rfl, own2, bel2⟩
    obtain ⟨vals, st⟩ := S1.out.addRows bel2 own2 (Nat.le_refl _) (Nat.le_refl _)
    rw [← HSEC.out] at st ⊢
    obtain ⟨l, hl⟩ : ∃ l, (secAt xss f 0 k).length = l := ⟨_, rfl⟩
    rw [hl] at st ⊢
    have z0 := (st.blk (i := 1) rfl).cell (i := 0) rfl
    have f0 := (st.blk (i := 1) rfl).free 0
    have HL := Lib.hid hl
    have S2 := Lib.hid st
    clear st own2 bel2 hbc hl
    go_wp2
    have st4 := S2.out.blkSet (i := 1) rfl 0 (.slice A2 l c2)
    have y0 := (st4.blk (i := 1) rfl).cell (i := 0) rfl
    refine bodyPost_ret (v := .tuple #[.agg #[.slice A2 l c2], .int .i64 0]) (by simp [results, Try.results46, go_sem, y0]) rfl ⟨A2, c2, by rw [HL.out], ?_, st4.below⟩
    rw [HL.out]
    exact st4.sep.ownSS (i := 2) rfl
  · have h1 : fmR xss i y = [] := by simp [fmR, hc]
    obtain ⟨C, hC⟩ : ∃ C, fcC xss i y 0 = C := ⟨_, rfl⟩
    rw [h1, hC]
    have hfc : fcF xss i y 0 = 0 := by simp [fcF, hc]
    rw [hC] at hc
    have HC := Lib.hid hC
    have HFC := Lib.hid hfc
    have hne : (C != 0) = true := by simpa using hc
    clear hx ha hr h1 hC hc hfc
    go_enter Try.func46, Try.ntmps46
    go_wp2_with fail
    refine (sFace_any _ _ _ _ HX.out (HA.out.keep S0.out.below) hN HR.out).mono ?_
    rintro e w1 ⟨rfl, bel⟩
    rw [HC.out, HFC.out]
    have st1 := S0.out.go bel
    have z0 := (st1.blk (i := 1) rfl).cell (i := 0) rfl
    have f0 := (st1.blk (i := 1) rfl).free 0
    have S1 := Lib.hid st1
    clear bel hbc st1
    go_wp2
    have st4 := S1.out.blkSet (i := 1) rfl 0 (.slice none 0 0)
    have y0 := (st4.blk (i := 1) rfl).cell (i := 0) rfl
    refine bodyPost_ret (v := .tuple #[.agg #[.slice none 0 0], .int .i64 C]) (by simp [results, Try.results46, go_sem, y0]) rfl ⟨none, 0, rfl, ownSS_nil _ _ _ _, st4.below⟩

set_option maxHeartbeats 1600000 in
theorem sCofaceAsManiplex_any {A : Option Addr} {c N : Nat} {xss : List (List Int)} (i y : Int) (w : World) (hx : xss.length = N) (ha : RdSS w A xss) (hN : N ≤ 1048576) (hr : ∀ xs ∈ xss, (xs.length : Int) ≤ 1048576) (hcap : N ≤ c) (hc63 : c ≤ 9223372036854775807) :
    Calls Try.prog 48 #[.agg #[.slice A N c], .int .i64 i, .int .i64 y] w (RetMC w (cmR xss i y) (cmC xss i y)) := by
  have HX := Lib.hid hx
  have HA := Lib.hid ha
  have HR := Lib.hid hr
  have st0 := ((St.start w).addBlk #[.slice A N c] 26).addBlk #[.slice none 0 0] 26
  simp at st0
  have S0 := Lib.hid st0
  have hbc := (st0.blk (i := 0) rfl).cell (i := 0) rfl
  have hjN : IntKind.i64.wrap ((N : Int) - 1) = (N : Int) - 1 := IntWalk.i64_in _ (by omega)
  clear st0
  obtain ⟨s, hs⟩ : ∃ s : Int, s = (N : Int) - 1 := ⟨_, rfl⟩
  have hs' : s = (xss.length : Int) - 1 := by rw [hs, hx]
  by_cases hc : fcC xss i y s = 0
  · obtain ⟨ho, hf, hi0, his⟩ := fcC_zero hc
    obtain ⟨p, rfl, hp⟩ := flagB_true hf
    have hfc : fcF xss p y s = idxL (facL xss (flN xss) p) y := by simp [fcF, hc]
    have h1 : cmR xss p y = secAt xss (fcF xss p y s).toNat (p + 1) (N - 1) := by rw [cmR, cmC, ← hs', if_pos hc, hx, Int.toNat_natCast]
    have h2 : cmC xss p y = 0 := by rw [cmC, ← hs', hc]
    rw [h1, h2]
    obtain ⟨i1, hi1⟩ : ∃ x, p + 1 = x := ⟨_, rfl⟩
    rw [hi1]
    have hman := okMan_iff.1 ho
    have hsys := hman.sys
    have hN5 := hman.r5
    rw [hx] at hN5 hp
    obtain ⟨b, o, A0, c0, rfl, hc0⟩ := man_row0 hman ha
    obtain ⟨n, hn⟩ : ∃ n, flN xss = n := ⟨_, rfl⟩
    rw [hn] at hc0 hsys hfc
    simp only [Int.toNat_natCast] at hi0
    rw [hn] at hi0
    have hib := (idxL_bd (facL xss n p) y).2
    rw [facL_len] at hib
    obtain ⟨f, hf2⟩ := Int.eq_ofNat_of_zero_le hi0
    rw [hf2] at hib hfc
    rw [hfc]
    simp only [Int.toNat_natCast]
    have HC0 := Lib.hid hc0
    have HS := Lib.hid hsys
    obtain ⟨k, hk⟩ : ∃ k, N - 1 = k := ⟨_, rfl⟩
    rw [hk]
    have HSEC := Lib.hid (show secAt xss f i1 k = secL ((xss.drop i1).take (k + 1 - i1)) n f by rw [secAt, hn])
    have hfn : f < n := by omega
    have hik' : i1 ≤ k := by omega
    have hkN : k < N := by omega
    have hjk : IntKind.i64.wrap ((p : Int) + 1) = (i1 : Int) := (IntWalk.i64_in _ (by omega)).trans (by omega)
    have hsk : s = (k : Int) := by rw [hs]; omega
    have HC := Lib.hid (show fcC xss p y (k : Int) = 0 by rw [← hsk]; exact hc)
    have HFC := Lib.hid (show fcF xss p y (k : Int) = (f : Int) by rw [← hsk]; exact hfc)
    have hjN2 : IntKind.i64.wrap ((N : Int) - 1) = (k : Int) := hjN.trans (by omega)
    clear hx ha hr ho hman hn hc0 hsys hc h1 h2 hf hf2 hi0 his hfc hib hs' hs hsk hjN hi1
    go_enter Try.func48, Try.ntmps48
    go_wp2_with fail
    refine (sFace_any _ _ _ _ HX.out (HA.out.keep S0.out.below) hN HR.out).mono ?_
    rintro e w1 ⟨rfl, bel⟩
    rw [HC.out, HFC.out]
    have S1 := Lib.hid (S0.out.go bel)
    clear bel hbc
    have hbc := (S1.out.blk (i := 0) rfl).cell (i := 0) rfl
    go_wp2_with fail
    refine (ssec_any _ (i := i1) HX.out (HA.out.keep S1.out.below) HS.out (cell_be HC0.out S1.out.below) hfn hik' hkN hcap hc63 (by omega)).mono ?_
    rintro e w2 ⟨A2, c2, rfl, own2, bel2⟩
    obtain ⟨vals, st⟩ := S1.out.addRows bel2 own2 (Nat.le_refl _) (Nat.le_refl _)
    rw [← HSEC.out] at st ⊢
    obtain ⟨l, hl⟩ : ∃ l, (secAt xss f i1 k).length = l := ⟨_, rfl⟩
    rw [hl] at st ⊢
    have z0 := (st.blk (i := 1) rfl).cell (i := 0) rfl
    have f0 := (st.blk (i := 1) rfl).free 0
    have HL := Lib.hid hl
    have S2 := Lib.hid st
    clear st own2 bel2 hbc hl
    go_wp2
    have st4 := S2.out.blkSet (i := 1) rfl 0 (.slice A2 l c2)
    have y0 := (st4.blk (i := 1) rfl).cell (i := 0) rfl
    refine bodyPost_ret (v := .tuple #[.agg #[.slice A2 l c2], .int .i64 0]) (by simp [results, Try.results48, go_sem, y0]) rfl ⟨A2, c2, by rw [HL.out], ?_, st4.below⟩
    rw [HL.out]
    exact st4.sep.ownSS (i := 2) rfl
  · have h1 : cmR xss i y = [] := by rw [cmR, cmC, ← hs', if_neg hc]
    obtain ⟨C, hC⟩ : ∃ C, fcC xss i y s = C := ⟨_, rfl⟩
    have h2 : cmC xss i y = C := by rw [cmC, ← hs', hC]
    rw [h1, h2]
    have hfc : fcF xss i y s = 0 := by simp [fcF, hc]
    rw [hC] at hc
    have HC := Lib.hid hC
    have HFC := Lib.hid hfc
    have HST := Lib.hid hs
    have hne : (C != 0) = true := by simpa using hc
    clear hx ha hr h1 h2 hC hc hfc hs' hs
    go_enter Try.func48, Try.ntmps48
    go_wp2_with fail
    refine (sFace_any _ _ _ _ HX.out (HA.out.keep S0.out.below) hN HR.out).mono ?_
    rintro e w1 ⟨rfl, bel⟩
    rw [← HST.out, HC.out, HFC.out]
    have st1 := S0.out.go bel
    have z0 := (st1.blk (i := 1) rfl).cell (i := 0) rfl
    have f0 := (st1.blk (i := 1) rfl).free 0
    have S1 := Lib.hid st1
    clear bel hbc st1
    go_wp2
    have st4 := S1.out.blkSet (i := 1) rfl 0 (.slice none 0 0)
    have y0 := (st4.blk (i := 1) rfl).cell (i := 0) rfl
    refine bodyPost_ret (v := .tuple #[.agg #[.slice none 0 0], .int .i64 C]) (by simp [results, Try.results48, go_sem, y0]) rfl ⟨none, 0, rfl, ownSS_nil _ _ _ _, st4.below⟩
end Go.Proofs.Ytckmmgepoccopaa
