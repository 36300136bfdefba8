/- spec.SectionAt, FacetAt, VertexFigureAt, FaceAsManiplex, CofaceAsManiplex. -/
import Derived.Test.YtckmmgepoccopaaSew
import Derived.Test.YtckmmgepoccopaaL8
namespace Go.Proofs.Ytckmmgepoccopaa
open Go.RowKit

noncomputable def scC (xss : List (List Int)) (f i k : Int) : Int := if okMan xss = true then (if flagB (flN xss) f = true ∧ 0 ≤ i ∧ i ≤ k ∧ k < xss.length then 0 else 2) else 1
noncomputable def secAt (xss : List (List Int)) (f i k : Nat) : List (List Int) := secL ((xss.drop i).take (k + 1 - i)) (flN xss) f
noncomputable def scR (xss : List (List Int)) (f i k : Int) : List (List Int) := if scC xss f i k = 0 then secAt xss f.toNat i.toNat k.toNat else []
noncomputable def faC (xss : List (List Int)) (f : Int) : Int := if scC xss f 0 0 = 0 then (if xss.length = 1 then 5 else 0) else scC xss f 0 0
noncomputable def faR (xss : List (List Int)) (f : Int) : List (List Int) := if faC xss f = 0 then secAt xss f.toNat 0 (xss.length - 2) else []
noncomputable def vfR (xss : List (List Int)) (f : Int) : List (List Int) := if faC xss f = 0 then secAt xss f.toNat 1 (xss.length - 1) else []
theorem scC_zero {xss : List (List Int)} {f i k : Int} (h : scC xss f i k = 0) : okMan xss = true ∧ flagB (flN xss) f = true ∧ 0 ≤ i ∧ i ≤ k ∧ k < xss.length := by
  unfold scC at h
  split at h
  · rename_i h1
    split at h
    · rename_i h2
      exact ⟨h1, h2⟩
    · simp at h
  · simp at h

set_option maxHeartbeats 1600000 in
theorem sCode_any {A : Option Addr} {c N : Nat} {xss : List (List Int)} (f i k : Int) (w : World) (hx : xss.length = N) (ha : RdSS w A xss) (hN : N ≤ 1048576) (hr : ∀ xs ∈ xss, (xs.length : Int) ≤ 1048576) :
    Calls Try.prog 101 #[.agg #[.slice A N c], .int .i64 f, .int .i64 i, .int .i64 k] w fun e w' => e = .returned (.int .i64 (scC xss f i k)) ∧ Below w.heap.size w w' := by
  have HX := Lib.hid hx
  have HA := Lib.hid ha
  have HR := Lib.hid hr
  have st0 := (St.start w).addBlk #[.slice A N c] 26
  have S0 := Lib.hid st0
  have hbc := (st0.blk (i := 0) rfl).cell (i := 0) rfl
  clear st0
  cases ho : okMan xss
  · have h2 : scC xss f i k = 1 := by simp [scC, ho]
    rw [h2]
    have HO := Lib.hid ho
    clear hx ha hr ho h2
    go_enter Try.func101, Try.ntmps101
    go_wp2_with fail
    refine (sIs_any _ HX.out (HA.out.keep S0.out.below) hN HR.out).mono ?_
    rintro e w1 ⟨rfl, bel⟩
    rw [HO.out]
    have S1 := Lib.hid (S0.out.go bel)
    clear bel hbc
    go_wp2
    go_ret
    exact ⟨rfl, S1.out.below⟩
  · have hman := okMan_iff.1 ho
    have hn4 := hman.f4
    have hpos := hman.pos hx
    obtain ⟨b, o, A0, c0, rfl, hc0⟩ := man_row0 hman ha
    obtain ⟨n, hn⟩ : ∃ n, flN xss = n := ⟨_, rfl⟩
    rw [hn] at hc0 hn4
    have HC0 := Lib.hid hc0
    have HO := Lib.hid ho
    have HFL := Lib.hid hn
    cases hf : flagB n f
    · have h2 : scC xss f i k = 2 := by simp [scC, ho, hn, hf]
      rw [h2]
      have HF := Lib.hid hf
      clear hx ha hr ho hman hn hc0 h2 hf
      go_enter Try.func101, Try.ntmps101
      go_wp2_with fail
      refine (sIs_any _ HX.out (HA.out.keep S0.out.below) hN HR.out).mono ?_
      rintro e w1 ⟨rfl, bel⟩
      rw [HO.out]
      have S1 := Lib.hid (S0.out.go bel)
      clear bel hbc
      have hbc := (S1.out.blk (i := 0) rfl).cell (i := 0) rfl
      go_wp2_with fail
      refine (sFlag_bel f _ hpos (cell_be HC0.out S1.out.below) (by omega) HF.out).mono ?_
      rintro e w2 ⟨rfl, bel⟩
      have S2 := Lib.hid (S1.out.go bel)
      clear bel hbc
      go_wp2
      go_ret
      exact ⟨rfl, S2.out.below⟩
    · have h2 : scC xss f i k = if 0 ≤ i ∧ i ≤ k ∧ k < N then 0 else 2 := by simp [scC, ho, hn, hf, hx]
      rw [h2]
      obtain ⟨C, hC⟩ : ∃ C : Int, (if 0 ≤ i ∧ i ≤ k ∧ k < N then 0 else 2) = C := ⟨_, rfl⟩
      rw [hC]
      have HC := Lib.hid hC
      have HF := Lib.hid hf
      have hj : IntKind.i64.wrap ((N : Int) - 1) = (N : Int) - 1 := IntWalk.i64_in _ (by omega)
      clear hx ha hr ho hman hn hc0 h2 hf hC
      go_enter Try.func101, Try.ntmps101
      go_wp2_with fail
      refine (sIs_any _ HX.out (HA.out.keep S0.out.below) hN HR.out).mono ?_
      rintro e w1 ⟨rfl, bel⟩
      rw [HO.out]
      have S1 := Lib.hid (S0.out.go bel)
      clear bel hbc
      have hbc := (S1.out.blk (i := 0) rfl).cell (i := 0) rfl
      go_wp2_with fail
      refine (sFlag_bel f _ hpos (cell_be HC0.out S1.out.below) (by omega) HF.out).mono ?_
      rintro e w2 ⟨rfl, bel⟩
      have S2 := Lib.hid (S1.out.go bel)
      clear bel hbc
      have hbc := (S2.out.blk (i := 0) rfl).cell (i := 0) rfl
      by_cases h1 : i < 0
      · go_wp2
        go_ret
        exact ⟨ret_i64 (by rw [← HC.out, if_neg (by omega)]), S2.out.below⟩
      · by_cases h2 : k < i
        · go_wp2
          go_ret
          exact ⟨ret_i64 (by rw [← HC.out, if_neg (by omega)]), S2.out.below⟩
        · by_cases h3 : (N : Int) - 1 < k
          · go_wp2
            go_ret
            exact ⟨ret_i64 (by rw [← HC.out, if_neg (by omega)]), S2.out.below⟩
          · go_wp2
            go_ret
            exact ⟨ret_i64 (by rw [← HC.out, if_pos (by omega)]), S2.out.below⟩

set_option maxHeartbeats 1600000 in
theorem sSectionAt_any {A : Option Addr} {c N : Nat} {xss : List (List Int)} (f i k : Int) (w : World) (hx : xss.length = N) (ha : RdSS w A xss) (hN : N ≤ 1048576) (hr : ∀ xs ∈ xss, (xs.length : Int) ≤ 1048576) (hcap : N ≤ c) (hc63 : c ≤ 9223372036854775807) :
    Calls Try.prog 37 #[.agg #[.slice A N c], .int .i64 f, .int .i64 i, .int .i64 k] w (RetMC w (scR xss f i k) (scC xss f i k)) := by
  have HX := Lib.hid hx
  have HA := Lib.hid ha
  have HR := Lib.hid hr
  have st0 := ((St.start w).addBlk #[.slice A N c] 26).addBlk #[.slice none 0 0] 26
  simp at st0
  have S0 := Lib.hid st0
  have hbc := (st0.blk (i := 0) rfl).cell (i := 0) rfl
  clear st0
  by_cases hc : scC xss f i k = 0
  · obtain ⟨ho, hf, hi, hik, hk⟩ := scC_zero hc
    have h1 : scR xss f i k = secAt xss f.toNat i.toNat k.toNat := by simp [scR, hc]
    rw [h1, hc]
    have hman := okMan_iff.1 ho
    have hsys := hman.sys
    have hN5 := hman.r5
    rw [hx] at hN5 hk
    obtain ⟨b, o, A0, c0, rfl, hc0⟩ := man_row0 hman ha
    obtain ⟨n, hn⟩ : ∃ n, flN xss = n := ⟨_, rfl⟩
    rw [hn] at hc0 hsys hf
    have hf2 : 0 ≤ f ∧ f < (n : Int) := by simpa [flagB] using hf
    obtain ⟨f, rfl⟩ := Int.eq_ofNat_of_zero_le hf2.1
    obtain ⟨i, rfl⟩ := Int.eq_ofNat_of_zero_le hi
    obtain ⟨k, rfl⟩ := Int.eq_ofNat_of_zero_le (show 0 ≤ k by omega)
    simp only [Int.toNat_natCast]
    have HC0 := Lib.hid hc0
    have HS := Lib.hid hsys
    have HC := Lib.hid hc
    have HSEC := Lib.hid (show secAt xss f i k = secL ((xss.drop i).take (k + 1 - i)) n f by rw [secAt, hn])
    have hfn : f < n := by omega
    have hik' : i ≤ k := by omega
    have hkN : k < N := by omega
    clear hx ha hr ho hman hn hc0 hsys hc h1 hf hf2 hi hik hk
    go_enter Try.func37, Try.ntmps37
    go_wp2_with fail
    refine (sCode_any _ _ _ _ HX.out (HA.out.keep S0.out.below) hN HR.out).mono ?_
    rintro e w1 ⟨rfl, bel⟩
    rw [HC.out]
    have S1 := Lib.hid (S0.out.go bel)
    clear bel hbc
    have hbc := (S1.out.blk (i := 0) rfl).cell (i := 0) rfl
    go_wp2_with fail
    refine (ssec_any _ HX.out (HA.out.keep S1.out.below) HS.out (cell_be HC0.out S1.out.below) hfn hik' hkN hcap hc63 (by omega)).mono ?_
    rintro e w2 ⟨A2, c2, rfl, own2, bel2⟩
    obtain ⟨vals, st⟩ := S1.out.addRows bel2 own2 (Nat.le_refl _) (Nat.le_refl _)
    rw [← HSEC.out] at st ⊢
    obtain ⟨l, hl⟩ : ∃ l, (secAt xss f i k).length = l := ⟨_, rfl⟩
    rw [hl] at st ⊢
    have z0 := (st.blk (i := 1) rfl).cell (i := 0) rfl
    have f0 := (st.blk (i := 1) rfl).free 0
    have HL := Lib.hid hl
    have S2 := Lib.hid st
    clear st own2 bel2 hbc hl
    go_wp2
    have st4 := S2.out.blkSet (i := 1) rfl 0 (.slice A2 l c2)
    have y0 := (st4.blk (i := 1) rfl).cell (i := 0) rfl
    refine bodyPost_ret (v := .tuple #[.agg #[.slice A2 l c2], .int .i64 0]) (by simp [results, Try.results37, go_sem, y0]) rfl ⟨A2, c2, by rw [HL.out], ?_, st4.below⟩
    rw [HL.out]
    exact st4.sep.ownSS (i := 2) rfl
  · have h1 : scR xss f i k = [] := by simp [scR, hc]
    rw [h1]
    obtain ⟨C, hC⟩ : ∃ C, scC xss f i k = C := ⟨_, rfl⟩
    rw [hC] at hc ⊢
    have HC := Lib.hid hC
    have hne : (C != 0) = true := by simpa using hc
    clear hx ha hr h1 hC hc
    go_enter Try.func37, Try.ntmps37
    go_wp2_with fail
    refine (sCode_any _ _ _ _ HX.out (HA.out.keep S0.out.below) hN HR.out).mono ?_
    rintro e w1 ⟨rfl, bel⟩
    rw [HC.out]
    have st1 := S0.out.go bel
    have z0 := (st1.blk (i := 1) rfl).cell (i := 0) rfl
    have f0 := (st1.blk (i := 1) rfl).free 0
    have S1 := Lib.hid st1
    clear bel hbc st1
    go_wp2
    have st4 := S1.out.blkSet (i := 1) rfl 0 (.slice none 0 0)
    have y0 := (st4.blk (i := 1) rfl).cell (i := 0) rfl
    refine bodyPost_ret (v := .tuple #[.agg #[.slice none 0 0], .int .i64 C]) (by simp [results, Try.results37, go_sem, y0]) rfl ⟨none, 0, rfl, ownSS_nil _ _ _ _, st4.below⟩

set_option maxHeartbeats 1600000 in
theorem sFacetAt_any {A : Option Addr} {c N : Nat} {xss : List (List Int)} (f : Int) (w : World) (hx : xss.length = N) (ha : RdSS w A xss) (hN : N ≤ 1048576) (hr : ∀ xs ∈ xss, (xs.length : Int) ≤ 1048576) (hcap : N ≤ c) (hc63 : c ≤ 9223372036854775807) :
    Calls Try.prog 63 #[.agg #[.slice A N c], .int .i64 f] w (RetMC w (faR xss f) (faC xss f)) := by
  have HX := Lib.hid hx
  have HA := Lib.hid ha
  have HR := Lib.hid hr
  have st0 := ((St.start w).addBlk #[.slice A N c] 26).addBlk #[.slice none 0 0] 26
  simp at st0
  have S0 := Lib.hid st0
  have hbc := (st0.blk (i := 0) rfl).cell (i := 0) rfl
  clear st0
  by_cases hc : scC xss f 0 0 = 0
  · obtain ⟨ho, hf, _, _, _⟩ := scC_zero hc
    have hman := okMan_iff.1 ho
    have hsys := hman.sys
    have hN5 := hman.r5
    have hpos := hman.pos hx
    rw [hx] at hN5
    by_cases hN1 : N = 1
    · subst hN1
      have h1 : faC xss f = 5 := by simp [faC, hc, hx]
      have h2 : faR xss f = [] := by simp [faR, h1]
      rw [h1, h2]
      have HC := Lib.hid hc
      clear hx ha hr ho hman hsys hc h1 h2 hf
      go_enter Try.func63, Try.ntmps63
      go_wp2_with fail
      refine (sCode_any _ _ _ _ HX.out (HA.out.keep S0.out.below) hN HR.out).mono ?_
      rintro e w1 ⟨rfl, bel⟩
      rw [HC.out]
      have st1 := S0.out.go bel
      clear hbc
      have hbc := (st1.blk (i := 0) rfl).cell (i := 0) rfl
      have z0 := (st1.blk (i := 1) rfl).cell (i := 0) rfl
      have f0 := (st1.blk (i := 1) rfl).free 0
      have S1 := Lib.hid st1
      clear bel st1
      go_wp2
      have st4 := S1.out.blkSet (i := 1) rfl 0 (.slice none 0 0)
      have y0 := (st4.blk (i := 1) rfl).cell (i := 0) rfl
      refine bodyPost_ret (v := .tuple #[.agg #[.slice none 0 0], .int .i64 5]) (by simp [results, Try.results63, go_sem, y0]) rfl ⟨none, 0, rfl, ownSS_nil _ _ _ _, st4.below⟩
    · have h1 : faC xss f = 0 := by simp [faC, hc, hx, hN1]
      have h2 : faR xss f = secAt xss f.toNat 0 (N - 2) := by simp [faR, h1, hx]
      rw [h1, h2]
      obtain ⟨b, o, A0, c0, rfl, hc0⟩ := man_row0 hman ha
      obtain ⟨n, hn⟩ : ∃ n, flN xss = n := ⟨_, rfl⟩
      rw [hn] at hc0 hsys hf
      have hf2 : 0 ≤ f ∧ f < (n : Int) := by simpa [flagB] using hf
      obtain ⟨f, rfl⟩ := Int.eq_ofNat_of_zero_le hf2.1
      simp only [Int.toNat_natCast]
      have HC0 := Lib.hid hc0
      have HS := Lib.hid hsys
      have HC := Lib.hid hc
      obtain ⟨k, hk⟩ : ∃ k, N - 2 = k := ⟨_, rfl⟩
      rw [hk]
      have HSEC := Lib.hid (show secAt xss f 0 k = secL ((xss.drop 0).take (k + 1 - 0)) n f by rw [secAt, hn])
      have hfn : f < n := by omega
      have hik' : 0 ≤ k := by omega
      have hkN : k < N := by omega
      have hne1 : ((N : Int) == 1) = false := by rw [beq_eq_false_iff_ne]; omega
      have hjk : IntKind.i64.wrap ((N : Int) - 2) = (k : Int) := (IntWalk.i64_in _ (by omega)).trans (by omega)
      clear hx ha hr ho hman hn hc0 hsys hc h1 h2 hf hf2
      go_enter Try.func63, Try.ntmps63
      go_wp2_with fail
      refine (sCode_any _ _ _ _ HX.out (HA.out.keep S0.out.below) hN HR.out).mono ?_
      rintro e w1 ⟨rfl, bel⟩
      rw [HC.out]
      have S1 := Lib.hid (S0.out.go bel)
      clear bel hbc
      have hbc := (S1.out.blk (i := 0) rfl).cell (i := 0) rfl
      go_wp2_with fail
      refine (ssec_any _ (i := 0) HX.out (HA.out.keep S1.out.below) HS.out (cell_be HC0.out S1.out.below) hfn hik' hkN hcap hc63 (by omega)).mono ?_
      rintro e w2 ⟨A2, c2, rfl, own2, bel2⟩
      obtain ⟨vals, st⟩ := S1.out.addRows bel2 own2 (Nat.le_refl _) (Nat.le_refl _)
      rw [← HSEC.out] at st ⊢
      obtain ⟨l, hl⟩ : ∃ l, (secAt xss f 0 k).length = l := ⟨_, rfl⟩
      rw [hl] at st ⊢
      have z0 := (st.blk (i := 1) rfl).cell (i := 0) rfl
      have f0 := (st.blk (i := 1) rfl).free 0
      have HL := Lib.hid hl
      have S2 := Lib.hid st
      clear st own2 bel2 hbc hl
      go_wp2
      have st4 := S2.out.blkSet (i := 1) rfl 0 (.slice A2 l c2)
      have y0 := (st4.blk (i := 1) rfl).cell (i := 0) rfl
      refine bodyPost_ret (v := .tuple #[.agg #[.slice A2 l c2], .int .i64 0]) (by simp [results, Try.results63, go_sem, y0]) rfl ⟨A2, c2, by rw [HL.out], ?_, st4.below⟩
      rw [HL.out]
      exact st4.sep.ownSS (i := 2) rfl
  · have h1 : faC xss f = scC xss f 0 0 := by simp [faC, hc]
    have h2 : faR xss f = [] := by simp [faR, h1, hc]
    rw [h1, h2]
    obtain ⟨C, hC⟩ : ∃ C, scC xss f 0 0 = C := ⟨_, rfl⟩
    rw [hC] at hc ⊢
    have HC := Lib.hid hC
    have hne : (C != 0) = true := by simpa using hc
    have hne2 : (C == 0) = false := by simpa using hc
    clear hx ha hr h1 h2 hC hc
    go_enter Try.func63, Try.ntmps63
    go_wp2_with fail
    refine (sCode_any _ _ _ _ HX.out (HA.out.keep S0.out.below) hN HR.out).mono ?_
    rintro e w1 ⟨rfl, bel⟩
    rw [HC.out]
    have st1 := S0.out.go bel
    have z0 := (st1.blk (i := 1) rfl).cell (i := 0) rfl
    have f0 := (st1.blk (i := 1) rfl).free 0
    have S1 := Lib.hid st1
    clear bel hbc st1
    go_wp2
    have st4 := S1.out.blkSet (i := 1) rfl 0 (.slice none 0 0)
    have y0 := (st4.blk (i := 1) rfl).cell (i := 0) rfl
    refine bodyPost_ret (v := .tuple #[.agg #[.slice none 0 0], .int .i64 C]) (by simp [results, Try.results63, go_sem, y0]) rfl ⟨none, 0, rfl, ownSS_nil _ _ _ _, st4.below⟩

set_option maxHeartbeats 1600000 in
theorem sVertexFigureAt_any {A : Option Addr} {c N : Nat} {xss : List (List Int)} (f : Int) (w : World) (hx : xss.length = N) (ha : RdSS w A xss) (hN : N ≤ 1048576) (hr : ∀ xs ∈ xss, (xs.length : Int) ≤ 1048576) (hcap : N ≤ c) (hc63 : c ≤ 9223372036854775807) :
    Calls Try.prog 65 #[.agg #[.slice A N c], .int .i64 f] w (RetMC w (vfR xss f) (faC xss f)) := by
  have HX := Lib.hid hx
  have HA := Lib.hid ha
  have HR := Lib.hid hr
  have st0 := ((St.start w).addBlk #[.slice A N c] 26).addBlk #[.slice none 0 0] 26
  simp at st0
  have S0 := Lib.hid st0
  have hbc := (st0.blk (i := 0) rfl).cell (i := 0) rfl
  clear st0
  by_cases hc : scC xss f 0 0 = 0
  · obtain ⟨ho, hf, _, _, _⟩ := scC_zero hc
    have hman := okMan_iff.1 ho
    have hsys := hman.sys
    have hN5 := hman.r5
    have hpos := hman.pos hx
    rw [hx] at hN5
    by_cases hN1 : N = 1
    · subst hN1
      have h1 : faC xss f = 5 := by simp [faC, hc, hx]
      have h2 : vfR xss f = [] := by simp [vfR, h1]
      rw [h1, h2]
      have HC := Lib.hid hc
      clear hx ha hr ho hman hsys hc h1 h2 hf
      go_enter Try.func65, Try.ntmps65
      go_wp2_with fail
      refine (sCode_any _ _ _ _ HX.out (HA.out.keep S0.out.below) hN HR.out).mono ?_
      rintro e w1 ⟨rfl, bel⟩
      rw [HC.out]
      have st1 := S0.out.go bel
      clear hbc
      have hbc := (st1.blk (i := 0) rfl).cell (i := 0) rfl
      have z0 := (st1.blk (i := 1) rfl).cell (i := 0) rfl
      have f0 := (st1.blk (i := 1) rfl).free 0
      have S1 := Lib.hid st1
      clear bel st1
      go_wp2
      have st4 := S1.out.blkSet (i := 1) rfl 0 (.slice none 0 0)
      have y0 := (st4.blk (i := 1) rfl).cell (i := 0) rfl
      refine bodyPost_ret (v := .tuple #[.agg #[.slice none 0 0], .int .i64 5]) (by simp [results, Try.results65, go_sem, y0]) rfl ⟨none, 0, rfl, ownSS_nil _ _ _ _, st4.below⟩
    · have h1 : faC xss f = 0 := by simp [faC, hc, hx, hN1]
      have h2 : vfR xss f = secAt xss f.toNat 1 (N - 1) := by simp [vfR, h1, hx]
      rw [h1, h2]
      obtain ⟨b, o, A0, c0, rfl, hc0⟩ := man_row0 hman ha
      obtain ⟨n, hn⟩ : ∃ n, flN xss = n := ⟨_, rfl⟩
      rw [hn] at hc0 hsys hf
      have hf2 : 0 ≤ f ∧ f < (n : Int) := by simpa [flagB] using hf
      obtain ⟨f, rfl⟩ := Int.eq_ofNat_of_zero_le hf2.1
      simp only [Int.toNat_natCast]
      have HC0 := Lib.hid hc0
      have HS := Lib.hid hsys
      have HC := Lib.hid hc
      obtain ⟨k, hk⟩ : ∃ k, N - 1 = k := ⟨_, rfl⟩
      rw [hk]
      have HSEC := Lib.hid (show secAt xss f 1 k = secL ((xss.drop 1).take (k + 1 - 1)) n f by rw [secAt, hn])
      have hfn : f < n := by omega
      have hik' : 1 ≤ k := by omega
      have hkN : k < N := by omega
      have hne1 : ((N : Int) == 1) = false := by rw [beq_eq_false_iff_ne]; omega
      have hjk : IntKind.i64.wrap ((N : Int) - 1) = (k : Int) := (IntWalk.i64_in _ (by omega)).trans (by omega)
      clear hx ha hr ho hman hn hc0 hsys hc h1 h2 hf hf2
      go_enter Try.func65, Try.ntmps65
      go_wp2_with fail
      refine (sCode_any _ _ _ _ HX.out (HA.out.keep S0.out.below) hN HR.out).mono ?_
      rintro e w1 ⟨rfl, bel⟩
      rw [HC.out]
      have S1 := Lib.hid (S0.out.go bel)
      clear bel hbc
      have hbc := (S1.out.blk (i := 0) rfl).cell (i := 0) rfl
      go_wp2_with fail
      refine (ssec_any _ (i := 1) HX.out (HA.out.keep S1.out.below) HS.out (cell_be HC0.out S1.out.below) hfn hik' hkN hcap hc63 (by omega)).mono ?_
      rintro e w2 ⟨A2, c2, rfl, own2, bel2⟩
      obtain ⟨vals, st⟩ := S1.out.addRows bel2 own2 (Nat.le_refl _) (Nat.le_refl _)
      rw [← HSEC.out] at st ⊢
      obtain ⟨l, hl⟩ : ∃ l, (secAt xss f 1 k).length = l := ⟨_, rfl⟩
      rw [hl] at st ⊢
      have z0 := (st.blk (i := 1) rfl).cell (i := 0) rfl
      have f0 := (st.blk (i := 1) rfl).free 0
      have HL := Lib.hid hl
      have S2 := Lib.hid st
      clear st own2 bel2 hbc hl
      go_wp2
      have st4 := S2.out.blkSet (i := 1) rfl 0 (.slice A2 l c2)
      have y0 := (st4.blk (i := 1) rfl).cell (i := 0) rfl
      refine bodyPost_ret (v := .tuple #[.agg #[.slice A2 l c2], .int .i64 0]) (by simp [results, Try.results65, go_sem, y0]) rfl ⟨A2, c2, by rw [HL.out], ?_, st4.below⟩
      rw [HL.out]
      exact st4.sep.ownSS (i := 2) rfl
  · have h1 : faC xss f = scC xss f 0 0 := by simp [faC, hc]
    have h2 : vfR xss f = [] := by simp [vfR, h1, hc]
    rw [h1, h2]
    obtain ⟨C, hC⟩ : ∃ C, scC xss f 0 0 = C := ⟨_, rfl⟩
    rw [hC] at hc ⊢
    have HC := Lib.hid hC
    have hne : (C != 0) = true := by simpa using hc
    have hne2 : (C == 0) = false := by simpa using hc
    clear hx ha hr h1 h2 hC hc
    go_enter Try.func65, Try.ntmps65
    go_wp2_with fail
    refine (sCode_any _ _ _ _ HX.out (HA.out.keep S0.out.below) hN HR.out).mono ?_
    rintro e w1 ⟨rfl, bel⟩
    rw [HC.out]
    have st1 := S0.out.go bel
    have z0 := (st1.blk (i := 1) rfl).cell (i := 0) rfl
    have f0 := (st1.blk (i := 1) rfl).free 0
    have S1 := Lib.hid st1
    clear bel hbc st1
    go_wp2
    have st4 := S1.out.blkSet (i := 1) rfl 0 (.slice none 0 0)
    have y0 := (st4.blk (i := 1) rfl).cell (i := 0) rfl
    refine bodyPost_ret (v := .tuple #[.agg #[.slice none 0 0], .int .i64 C]) (by simp [results, Try.results65, go_sem, y0]) rfl ⟨none, 0, rfl, ownSS_nil _ _ _ _, st4.below⟩
end Go.Proofs.Ytckmmgepoccopaa
