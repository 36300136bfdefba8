/- impl.SectionAt, FacetAt, VertexFigureAt. -/
import Derived.Test.YtckmmgepoccopaaIse
import Derived.Test.YtckmmgepoccopaaSex
import Derived.Test.YtckmmgepoccopaaL7
import Derived.Test.YtckmmgepoccopaaL8
import Derived.Deep.RegionHeld3
import Derived.Deep.RegionLaw
namespace Go.Proofs.Ytckmmgepoccopaa
open Go.RowKit

theorem iRanks_bel {A : Option Addr} {c N : Nat} {r : Bool} (i k : Int) (w : World) (hr : decide (0 ≤ i ∧ i ≤ k ∧ k < (N : Int)) = r) :
    Calls Try.prog 99 #[.agg #[.slice A N c], .int .i64 i, .int .i64 k] w fun e w' => e = .returned (.bool r) ∧ Below w.heap.size w w' := by
  have st0 := (St.start w).addBlk #[.slice A N c] 26
  have S0 := Lib.hid st0
  have hbc := (st0.blk (i := 0) rfl).cell (i := 0) rfl
  clear st0
  cases hi : flagB N i
  · have h1 : r = false := by rw [← hr]; refine decide_eq_false fun h => ?_; simp [flagB] at hi; omega
    subst h1
    have HI := Lib.hid hi
    clear hr hi
    go_enter Try.func99, Try.ntmps99
    go_wp2_with fail
    refine (iRank_bel _ _ HI.out).mono ?_
    rintro e w1 ⟨rfl, bel⟩
    have S1 := Lib.hid (S0.out.go bel)
    clear bel hbc
    go_wp2
    go_ret
    exact ⟨rfl, S1.out.below⟩
  · cases hk : flagB N k
    · have h1 : r = false := by rw [← hr]; refine decide_eq_false fun h => ?_; simp [flagB] at hk; omega
      subst h1
      have HI := Lib.hid hi
      have HK := Lib.hid hk
      clear hr hi hk
      go_enter Try.func99, Try.ntmps99
      go_wp2_with fail
      refine (iRank_bel _ _ HI.out).mono ?_
      rintro e w1 ⟨rfl, bel⟩
      have S1 := Lib.hid (S0.out.go bel)
      clear bel hbc
      have hbc := (S1.out.blk (i := 0) rfl).cell (i := 0) rfl
      go_wp2_with fail
      refine (iRank_bel _ _ HK.out).mono ?_
      rintro e w2 ⟨rfl, bel⟩
      have S2 := Lib.hid (S1.out.go bel)
      clear bel hbc
      go_wp2
      go_ret
      exact ⟨rfl, S2.out.below⟩
    · have h1 : decide (i ≤ k) = r := by
        rw [← hr]
        simp [flagB] at hi hk
        congr 1
        simp only [eq_iff_iff]
        omega
      have HI := Lib.hid hi
      have HK := Lib.hid hk
      have H1 := Lib.hid h1
      clear hr hi hk h1
      go_enter Try.func99, Try.ntmps99
      go_wp2_with fail
      refine (iRank_bel _ _ HI.out).mono ?_
      rintro e w1 ⟨rfl, bel⟩
      have S1 := Lib.hid (S0.out.go bel)
      clear bel hbc
      have hbc := (S1.out.blk (i := 0) rfl).cell (i := 0) rfl
      go_wp2_with fail
      refine (iRank_bel _ _ HK.out).mono ?_
      rintro e w2 ⟨rfl, bel⟩
      have S2 := Lib.hid (S1.out.go bel)
      clear bel hbc
      go_wp2
      go_ret
      exact ⟨ret_bool H1.out, S2.out.below⟩

theorem rank_bel {A : Option Addr} {c N : Nat} (w : World) :
    Calls Try.prog 105 #[.agg #[.slice A N c]] w fun e w' => e = .returned (.int .i64 N) ∧ Below w.heap.size w w' :=
  (rank_any w).mono fun _ _ ⟨he, hb⟩ => ⟨he, hb ▸ below1 _ _⟩

set_option maxHeartbeats 1600000 in
theorem iSectionAt_any {A : Option Addr} {c N : Nat} {xss : List (List Int)} (f i k : Int) (w : World) (hx : xss.length = N) (ha : RdSS w A xss) (hN : N ≤ 1048576) (hr : ∀ xs ∈ xss, (xs.length : Int) ≤ 1048576) (hcap : N ≤ c) (hc63 : c ≤ 9223372036854775807) :
    Calls Try.prog 36 #[.agg #[.slice A N c], .int .i64 f, .int .i64 i, .int .i64 k] w (RetMC w (scR xss f i k) (scC xss f i k)) := by
  have HX := Lib.hid hx
  have HA := Lib.hid ha
  have HR := Lib.hid hr
  have st0 := ((St.start w).addBlk #[.slice A N c] 26).addBlk #[.slice none 0 0] 26
  simp at st0
  have S0 := Lib.hid st0
  have hbc := (st0.blk (i := 0) rfl).cell (i := 0) rfl
  clear st0
  cases ho : okMan xss
  · have h2 : scC xss f i k = 1 := by simp [scC, ho]
    have h1 : scR xss f i k = [] := by simp [scR, h2]
    rw [h1, h2]
    have HO := Lib.hid ho
    clear hx ha hr ho h1 h2
    go_enter Try.func36, Try.ntmps36
    go_wp2_with fail
    refine (iMan_any _ HX.out (HA.out.keep S0.out.below) hN HR.out).mono ?_
    rintro e w1 ⟨rfl, bel⟩
    rw [HO.out]
    have S1 := Lib.hid (S0.out.go bel)
    clear bel hbc
    have hbc := (S1.out.blk (i := 0) rfl).cell (i := 0) rfl
    have z0 := (S1.out.blk (i := 1) rfl).cell (i := 0) rfl
    have f0 := (S1.out.blk (i := 1) rfl).free 0
    go_wp2
    have st4 := S1.out.blkSet (i := 1) rfl 0 (.slice none 0 0)
    have y0 := (st4.blk (i := 1) rfl).cell (i := 0) rfl
    refine bodyPost_ret (v := .tuple #[.agg #[.slice none 0 0], .int .i64 1]) (by simp [results, Try.results36, go_sem, y0]) rfl ⟨none, 0, rfl, ownSS_nil _ _ _ _, st4.below⟩
  · have hman := okMan_iff.1 ho
    have hsys := hman.sys
    have hn4 := hman.f4
    have hN5 := hman.r5
    have hpos := hman.pos hx
    rw [hx] at hN5
    obtain ⟨b, o, A0, c0, rfl, hc0⟩ := man_row0 hman ha
    obtain ⟨n, hn⟩ : ∃ n, flN xss = n := ⟨_, rfl⟩
    rw [hn] at hc0 hsys hn4
    have HC0 := Lib.hid hc0
    have HS := Lib.hid hsys
    have HO := Lib.hid ho
    cases hf : flagB n f
    · have h2 : scC xss f i k = 2 := by simp [scC, ho, hn, hf]
      have h1 : scR xss f i k = [] := by simp [scR, h2]
      rw [h1, h2]
      have HF := Lib.hid hf
      clear hx ha hr ho h1 h2 hman hn hc0 hsys hf
      go_enter Try.func36, Try.ntmps36
      go_wp2_with fail
      refine (iMan_any _ HX.out (HA.out.keep S0.out.below) hN HR.out).mono ?_
      rintro e w1 ⟨rfl, bel⟩
      rw [HO.out]
      have S1 := Lib.hid (S0.out.go bel)
      clear bel hbc
      have hbc := (S1.out.blk (i := 0) rfl).cell (i := 0) rfl
      go_wp2_with fail
      refine (iFlag_bel f _ hpos (cell_be HC0.out S1.out.below) (by omega) HF.out).mono ?_
      rintro e w2 ⟨rfl, bel⟩
      have S2 := Lib.hid (S1.out.go bel)
      clear bel hbc
      have hbc := (S2.out.blk (i := 0) rfl).cell (i := 0) rfl
      have z0 := (S2.out.blk (i := 1) rfl).cell (i := 0) rfl
      have f0 := (S2.out.blk (i := 1) rfl).free 0
      go_wp2
      have st4 := S2.out.blkSet (i := 1) rfl 0 (.slice none 0 0)
      have y0 := (st4.blk (i := 1) rfl).cell (i := 0) rfl
      refine bodyPost_ret (v := .tuple #[.agg #[.slice none 0 0], .int .i64 2]) (by simp [results, Try.results36, go_sem, y0]) rfl ⟨none, 0, rfl, ownSS_nil _ _ _ _, st4.below⟩
    · cases hb : decide (0 ≤ i ∧ i ≤ k ∧ k < (N : Int))
      · have h2 : scC xss f i k = 2 := by
          have := of_decide_eq_false hb
          simp only [scC, ho, hn, hf, hx, if_true, true_and]
          rw [if_neg this]
        have h1 : scR xss f i k = [] := by simp [scR, h2]
        rw [h1, h2]
        have HF := Lib.hid hf
        have HB := Lib.hid hb
        clear hx ha hr ho h1 h2 hman hn hc0 hsys hf hb
        go_enter Try.func36, Try.ntmps36
        go_wp2_with fail
        refine (iMan_any _ HX.out (HA.out.keep S0.out.below) hN HR.out).mono ?_
        rintro e w1 ⟨rfl, bel⟩
        rw [HO.out]
        have S1 := Lib.hid (S0.out.go bel)
        clear bel hbc
        have hbc := (S1.out.blk (i := 0) rfl).cell (i := 0) rfl
        go_wp2_with fail
        refine (iFlag_bel f _ hpos (cell_be HC0.out S1.out.below) (by omega) HF.out).mono ?_
        rintro e w2 ⟨rfl, bel⟩
        have S2 := Lib.hid (S1.out.go bel)
        clear bel hbc
        have hbc := (S2.out.blk (i := 0) rfl).cell (i := 0) rfl
        go_wp2_with fail
        refine (iRanks_bel i k _ HB.out).mono ?_
        rintro e w3 ⟨rfl, bel⟩
        have S3 := Lib.hid (S2.out.go bel)
        clear bel hbc
        have hbc := (S3.out.blk (i := 0) rfl).cell (i := 0) rfl
        have z0 := (S3.out.blk (i := 1) rfl).cell (i := 0) rfl
        have f0 := (S3.out.blk (i := 1) rfl).free 0
        go_wp2
        have st4 := S3.out.blkSet (i := 1) rfl 0 (.slice none 0 0)
        have y0 := (st4.blk (i := 1) rfl).cell (i := 0) rfl
        refine bodyPost_ret (v := .tuple #[.agg #[.slice none 0 0], .int .i64 2]) (by simp [results, Try.results36, go_sem, y0]) rfl ⟨none, 0, rfl, ownSS_nil _ _ _ _, st4.below⟩
      · have hb2 := of_decide_eq_true hb
        have h2 : scC xss f i k = 0 := by
          simp only [scC, ho, hn, hf, hx, if_true, true_and]
          rw [if_pos hb2]
        have h1 : scR xss f i k = secAt xss f.toNat i.toNat k.toNat := by simp [scR, h2]
        rw [h1, h2]
        have hf2 : 0 ≤ f ∧ f < (n : Int) := by simpa [flagB] using hf
        have HF := Lib.hid hf
        have HB := Lib.hid hb
        obtain ⟨f, rfl⟩ := Int.eq_ofNat_of_zero_le hf2.1
        obtain ⟨i, rfl⟩ := Int.eq_ofNat_of_zero_le hb2.1
        obtain ⟨k, rfl⟩ := Int.eq_ofNat_of_zero_le (show 0 ≤ k by omega)
        simp only [Int.toNat_natCast]
        have HSEC := Lib.hid (show secAt xss f i k = secL ((xss.drop i).take (k + 1 - i)) n f by rw [secAt, hn])
        have hfn : f < n := by omega
        have hik' : i ≤ k := by omega
        have hkN : k < N := by omega
        clear hx ha hr ho h1 h2 hman hn hc0 hsys hf hb hf2 hb2
        go_enter Try.func36, Try.ntmps36
        go_wp2_with fail
        refine (iMan_any _ HX.out (HA.out.keep S0.out.below) hN HR.out).mono ?_
        rintro e w1 ⟨rfl, bel⟩
        rw [HO.out]
        have S1 := Lib.hid (S0.out.go bel)
        clear bel hbc
        have hbc := (S1.out.blk (i := 0) rfl).cell (i := 0) rfl
        go_wp2_with fail
        refine (iFlag_bel f _ hpos (cell_be HC0.out S1.out.below) (by omega) HF.out).mono ?_
        rintro e w2 ⟨rfl, bel⟩
        have S2 := Lib.hid (S1.out.go bel)
        clear bel hbc
        have hbc := (S2.out.blk (i := 0) rfl).cell (i := 0) rfl
        go_wp2_with fail
        refine (iRanks_bel i k _ HB.out).mono ?_
        rintro e w3 ⟨rfl, bel⟩
        have S3 := Lib.hid (S2.out.go bel)
        clear bel hbc
        have hbc := (S3.out.blk (i := 0) rfl).cell (i := 0) rfl
        go_wp2_with fail
        refine (isec_any _ HX.out (HA.out.keep S3.out.below) HS.out (cell_be HC0.out S3.out.below) hfn hik' hkN hcap hc63 (by omega)).mono ?_
        rintro e w4 ⟨A2, c2, rfl, own2, bel2⟩
        obtain ⟨vals, st⟩ := S3.out.addRows bel2 own2 (Nat.le_refl _) (Nat.le_refl _)
        rw [← HSEC.out] at st ⊢
        obtain ⟨l, hl⟩ : ∃ l, (secAt xss f i k).length = l := ⟨_, rfl⟩
        rw [hl] at st ⊢
        have z0 := (st.blk (i := 1) rfl).cell (i := 0) rfl
        have f0 := (st.blk (i := 1) rfl).free 0
        have HL := Lib.hid hl
        have S4 := Lib.hid st
        clear st own2 bel2 hbc hl
        go_wp2
        have st4 := S4.out.blkSet (i := 1) rfl 0 (.slice A2 l c2)
        have y0 := (st4.blk (i := 1) rfl).cell (i := 0) rfl
        refine bodyPost_ret (v := .tuple #[.agg #[.slice A2 l c2], .int .i64 0]) (by simp [results, Try.results36, go_sem, y0]) rfl ⟨A2, c2, by rw [HL.out], ?_, st4.below⟩
        rw [HL.out]
        exact st4.sep.ownSS (i := 2) rfl

set_option maxHeartbeats 3200000 in
set_option maxRecDepth 8000 in
theorem iFacetAt_any {A : Option Addr} {c N : Nat} {xss : List (List Int)} (f : Int) (w : World) (hx : xss.length = N) (ha : RdSS w A xss) (hN : N ≤ 1048576) (hr : ∀ xs ∈ xss, (xs.length : Int) ≤ 1048576) (hcap : N ≤ c) (hc63 : c ≤ 9223372036854775807) :
    Calls Try.prog 64 #[.agg #[.slice A N c], .int .i64 f] w (RetMC w (faR xss f) (faC xss f)) := by
  have HX := Lib.hid hx
  have HA := Lib.hid ha
  have HR := Lib.hid hr
  have st0 := ((St.start w).addBlk #[.slice A N c] 26).addBlk #[.slice none 0 0] 26
  simp at st0
  have S0 := Lib.hid st0
  have hbc := (st0.blk (i := 0) rfl).cell (i := 0) rfl
  clear st0
  cases ho : okMan xss
  · have h2 : faC xss f = 1 := by simp [faC, scC, ho]
    have h1 : faR xss f = [] := by simp [faR, h2]
    rw [h1, h2]
    have HO := Lib.hid ho
    clear hx ha hr ho h1 h2
    go_enter Try.func64, Try.ntmps64
    go_wp2_with fail
    refine (iMan_any _ HX.out (HA.out.keep S0.out.below) hN HR.out).mono ?_
    rintro e w1 ⟨rfl, bel⟩
    rw [HO.out]
    have S1 := Lib.hid (S0.out.go bel)
    clear bel hbc
    have hbc := (S1.out.blk (i := 0) rfl).cell (i := 0) rfl
    have z0 := (S1.out.blk (i := 1) rfl).cell (i := 0) rfl
    have f0 := (S1.out.blk (i := 1) rfl).free 0
    go_wp2
    have st4 := S1.out.blkSet (i := 1) rfl 0 (.slice none 0 0)
    have y0 := (st4.blk (i := 1) rfl).cell (i := 0) rfl
    refine bodyPost_ret (v := .tuple #[.agg #[.slice none 0 0], .int .i64 1]) (by simp [results, Try.results64, go_sem, y0]) rfl ⟨none, 0, rfl, ownSS_nil _ _ _ _, st4.below⟩
  · have hman := okMan_iff.1 ho
    have hsys := hman.sys
    have hn4 := hman.f4
    have hN5 := hman.r5
    have hpos := hman.pos hx
    rw [hx] at hN5
    obtain ⟨b, o, A0, c0, rfl, hc0⟩ := man_row0 hman ha
    obtain ⟨n, hn⟩ : ∃ n, flN xss = n := ⟨_, rfl⟩
    rw [hn] at hc0 hsys hn4
    have HC0 := Lib.hid hc0
    have HS := Lib.hid hsys
    have HO := Lib.hid ho
    cases hf : flagB n f
    · have h2 : faC xss f = 2 := by simp [faC, scC, ho, hn, hf]
      have h1 : faR xss f = [] := by simp [faR, h2]
      rw [h1, h2]
      have HF := Lib.hid hf
      clear hx ha hr ho h1 h2 hman hn hc0 hsys hf
      go_enter Try.func64, Try.ntmps64
      go_wp2_with fail
      refine (iMan_any _ HX.out (HA.out.keep S0.out.below) hN HR.out).mono ?_
      rintro e w1 ⟨rfl, bel⟩
      rw [HO.out]
      have S1 := Lib.hid (S0.out.go bel)
      clear bel hbc
      have hbc := (S1.out.blk (i := 0) rfl).cell (i := 0) rfl
      go_wp2_with fail
      refine (iFlag_bel f _ hpos (cell_be HC0.out S1.out.below) (by omega) HF.out).mono ?_
      rintro e w2 ⟨rfl, bel⟩
      have S2 := Lib.hid (S1.out.go bel)
      clear bel hbc
      have hbc := (S2.out.blk (i := 0) rfl).cell (i := 0) rfl
      have z0 := (S2.out.blk (i := 1) rfl).cell (i := 0) rfl
      have f0 := (S2.out.blk (i := 1) rfl).free 0
      go_wp2
      have st4 := S2.out.blkSet (i := 1) rfl 0 (.slice none 0 0)
      have y0 := (st4.blk (i := 1) rfl).cell (i := 0) rfl
      refine bodyPost_ret (v := .tuple #[.agg #[.slice none 0 0], .int .i64 2]) (by simp [results, Try.results64, go_sem, y0]) rfl ⟨none, 0, rfl, ownSS_nil _ _ _ _, st4.below⟩
    · have hs0 : scC xss f 0 0 = 0 := by
        simp only [scC, ho, hn, hf, hx, if_true, true_and]
        rw [if_pos ⟨by omega, by omega, by omega⟩]
      by_cases hN1 : N = 1
      · subst hN1
        have h2 : faC xss f = 5 := by simp [faC, hs0, hx]
        have h1 : faR xss f = [] := by simp [faR, h2]
        rw [h1, h2]
        have HF := Lib.hid hf
        clear hx ha hr ho h1 h2 hman hn hc0 hsys hf hs0
        go_enter Try.func64, Try.ntmps64
        go_wp2_with fail
        refine (iMan_any _ HX.out (HA.out.keep S0.out.below) hN HR.out).mono ?_
        rintro e w1 ⟨rfl, bel⟩
        rw [HO.out]
        have S1 := Lib.hid (S0.out.go bel)
        clear bel hbc
        have hbc := (S1.out.blk (i := 0) rfl).cell (i := 0) rfl
        go_wp2_with fail
        refine (iFlag_bel f _ hpos (cell_be HC0.out S1.out.below) (by omega) HF.out).mono ?_
        rintro e w2 ⟨rfl, bel⟩
        have S2 := Lib.hid (S1.out.go bel)
        clear bel hbc
        have hbc := (S2.out.blk (i := 0) rfl).cell (i := 0) rfl
        go_wp2_with fail
        refine (rank_bel _).mono ?_
        rintro e w3 ⟨rfl, bel⟩
        have S3 := Lib.hid (S2.out.go bel)
        clear bel hbc
        have hbc := (S3.out.blk (i := 0) rfl).cell (i := 0) rfl
        have z0 := (S3.out.blk (i := 1) rfl).cell (i := 0) rfl
        have f0 := (S3.out.blk (i := 1) rfl).free 0
        go_wp2
        have st4 := S3.out.blkSet (i := 1) rfl 0 (.slice none 0 0)
        have y0 := (st4.blk (i := 1) rfl).cell (i := 0) rfl
        refine bodyPost_ret (v := .tuple #[.agg #[.slice none 0 0], .int .i64 5]) (by simp [results, Try.results64, go_sem, y0]) rfl ⟨none, 0, rfl, ownSS_nil _ _ _ _, st4.below⟩
      · have h2 : faC xss f = 0 := by simp [faC, hs0, hx, hN1]
        have h1 : faR xss f = secAt xss f.toNat 0 (N - 2) := by simp [faR, h2, hx]
        rw [h1, h2]
        have hf2 : 0 ≤ f ∧ f < (n : Int) := by simpa [flagB] using hf
        have HF := Lib.hid hf
        obtain ⟨f, rfl⟩ := Int.eq_ofNat_of_zero_le hf2.1
        simp only [Int.toNat_natCast]
        obtain ⟨k, hk⟩ : ∃ k, N - 2 = k := ⟨_, rfl⟩
        rw [hk]
        have HSEC := Lib.hid (show secAt xss f 0 k = secL ((xss.drop 0).take (k + 1 - 0)) n f by rw [secAt, hn])
        have hfn : f < n := by omega
        have hik' : 0 ≤ k := by omega
        have hkN : k < N := by omega
        have hne1 : ((N : Int) == 1) = false := by rw [beq_eq_false_iff_ne]; omega
        have hjk : IntKind.i64.wrap ((N : Int) - 2) = (k : Int) := (IntWalk.i64_in _ (by omega)).trans (by omega)
        clear hx ha hr ho h1 h2 hman hn hc0 hsys hf hf2 hs0
        go_enter Try.func64, Try.ntmps64
        go_wp2_with fail
        refine (iMan_any _ HX.out (HA.out.keep S0.out.below) hN HR.out).mono ?_
        rintro e w1 ⟨rfl, bel⟩
        rw [HO.out]
        have S1 := Lib.hid (S0.out.go bel)
        clear bel hbc
        have hbc := (S1.out.blk (i := 0) rfl).cell (i := 0) rfl
        go_wp2_with fail
        refine (iFlag_bel f _ hpos (cell_be HC0.out S1.out.below) (by omega) HF.out).mono ?_
        rintro e w2 ⟨rfl, bel⟩
        have S2 := Lib.hid (S1.out.go bel)
        clear bel hbc
        have hbc := (S2.out.blk (i := 0) rfl).cell (i := 0) rfl
        go_wp2_with fail
        refine (rank_bel _).mono ?_
        rintro e w3 ⟨rfl, bel⟩
        have S3 := Lib.hid (S2.out.go bel)
        clear bel hbc
        have hbc := (S3.out.blk (i := 0) rfl).cell (i := 0) rfl
        have Sd := Lib.hid (S3.out.go (below_drewN (Below.refl _ _) 1))
        obtain ⟨wd, hwd⟩ : ∃ wd, wd = w3.drewN 1 := ⟨_, rfl⟩
        go_wp2
        go_region_law ((first
          | (go_simp; go_at_call 105
             refine (rank_bel _).mono ?_
             rintro e w4 ⟨rfl, bel4⟩
             have S4 := Lib.hid (Sd.out.go bel4)
             have hbc4 := (S4.out.blk (i := 0) rfl).cell (i := 0) rfl)
          | (go_simp; go_at_call 100
             refine (isec_any _ (i := 0) HX.out (HA.out.keep S4.out.below) HS.out (cell_be HC0.out S4.out.below) hfn hik' hkN hcap hc63 (by omega)).mono ?_
             rintro e w5 ⟨A2, c2, rfl, own2, bel2⟩
             obtain ⟨vals, st⟩ := S4.out.addRows bel2 own2 (Nat.le_refl _) (Nat.le_refl _)
             rw [← HSEC.out] at st
             rw [← HSEC.out]
             obtain ⟨l, hl⟩ : ∃ l, (secAt xss f 0 k).length = l := ⟨_, rfl⟩
             rw [hl] at st
             rw [hl]
             have z0 := (st.blk (i := 1) rfl).cell (i := 0) rfl
             have f0 := (st.blk (i := 1) rfl).free 0
             have HL := Lib.hid hl
             have S5 := Lib.hid st
             clear st own2 bel2 hl)))
        all_goals
          have st4 := S5.out.blkSet (i := 1) rfl 0 (.slice A2 l c2)
          have y0 := (st4.blk (i := 1) rfl).cell (i := 0) rfl
          go_wp2
          refine bodyPost_ret (v := .tuple #[.agg #[.slice A2 l c2], .int .i64 0]) (by simp [results, Try.results64, go_sem, y0]) rfl ⟨A2, c2, by rw [HL.out], ?_, st4.below⟩
          rw [HL.out]
          exact st4.sep.ownSS (i := 2) rfl

set_option maxHeartbeats 3200000 in
set_option maxRecDepth 8000 in
theorem iVertexFigureAt_any {A : Option Addr} {c N : Nat} {xss : List (List Int)} (f : Int) (w : World) (hx : xss.length = N) (ha : RdSS w A xss) (hN : N ≤ 1048576) (hr : ∀ xs ∈ xss, (xs.length : Int) ≤ 1048576) (hcap : N ≤ c) (hc63 : c ≤ 9223372036854775807) :
    Calls Try.prog 66 #[.agg #[.slice A N c], .int .i64 f] w (RetMC w (vfR xss f) (faC xss f)) := by
  have HX := Lib.hid hx
  have HA := Lib.hid ha
  have HR := Lib.hid hr
  have st0 := ((St.start w).addBlk #[.slice A N c] 26).addBlk #[.slice none 0 0] 26
  simp at st0
  have S0 := Lib.hid st0
  have hbc := (st0.blk (i := 0) rfl).cell (i := 0) rfl
  clear st0
  cases ho : okMan xss
  · have h2 : faC xss f = 1 := by simp [faC, scC, ho]
    have h1 : vfR xss f = [] := by simp [vfR, h2]
    rw [h1, h2]
    have HO := Lib.hid ho
    clear hx ha hr ho h1 h2
    go_enter Try.func66, Try.ntmps66
    go_wp2_with fail
    refine (iMan_any _ HX.out (HA.out.keep S0.out.below) hN HR.out).mono ?_
    rintro e w1 ⟨rfl, bel⟩
    rw [HO.out]
    have S1 := Lib.hid (S0.out.go bel)
    clear bel hbc
    have hbc := (S1.out.blk (i := 0) rfl).cell (i := 0) rfl
    have z0 := (S1.out.blk (i := 1) rfl).cell (i := 0) rfl
    have f0 := (S1.out.blk (i := 1) rfl).free 0
    go_wp2
    have st4 := S1.out.blkSet (i := 1) rfl 0 (.slice none 0 0)
    have y0 := (st4.blk (i := 1) rfl).cell (i := 0) rfl
    refine bodyPost_ret (v := .tuple #[.agg #[.slice none 0 0], .int .i64 1]) (by simp [results, Try.results66, go_sem, y0]) rfl ⟨none, 0, rfl, ownSS_nil _ _ _ _, st4.below⟩
  · have hman := okMan_iff.1 ho
    have hsys := hman.sys
    have hn4 := hman.f4
    have hN5 := hman.r5
    have hpos := hman.pos hx
    rw [hx] at hN5
    obtain ⟨b, o, A0, c0, rfl, hc0⟩ := man_row0 hman ha
    obtain ⟨n, hn⟩ : ∃ n, flN xss = n := ⟨_, rfl⟩
    rw [hn] at hc0 hsys hn4
    have HC0 := Lib.hid hc0
    have HS := Lib.hid hsys
    have HO := Lib.hid ho
    cases hf : flagB n f
    · have h2 : faC xss f = 2 := by simp [faC, scC, ho, hn, hf]
      have h1 : vfR xss f = [] := by simp [vfR, h2]
      rw [h1, h2]
      have HF := Lib.hid hf
      clear hx ha hr ho h1 h2 hman hn hc0 hsys hf
      go_enter Try.func66, Try.ntmps66
      go_wp2_with fail
      refine (iMan_any _ HX.out (HA.out.keep S0.out.below) hN HR.out).mono ?_
      rintro e w1 ⟨rfl, bel⟩
      rw [HO.out]
      have S1 := Lib.hid (S0.out.go bel)
      clear bel hbc
      have hbc := (S1.out.blk (i := 0) rfl).cell (i := 0) rfl
      go_wp2_with fail
      refine (iFlag_bel f _ hpos (cell_be HC0.out S1.out.below) (by omega) HF.out).mono ?_
      rintro e w2 ⟨rfl, bel⟩
      have S2 := Lib.hid (S1.out.go bel)
      clear bel hbc
      have hbc := (S2.out.blk (i := 0) rfl).cell (i := 0) rfl
      have z0 := (S2.out.blk (i := 1) rfl).cell (i := 0) rfl
      have f0 := (S2.out.blk (i := 1) rfl).free 0
      go_wp2
      have st4 := S2.out.blkSet (i := 1) rfl 0 (.slice none 0 0)
      have y0 := (st4.blk (i := 1) rfl).cell (i := 0) rfl
      refine bodyPost_ret (v := .tuple #[.agg #[.slice none 0 0], .int .i64 2]) (by simp [results, Try.results66, go_sem, y0]) rfl ⟨none, 0, rfl, ownSS_nil _ _ _ _, st4.below⟩
    · have hs0 : scC xss f 0 0 = 0 := by
        simp only [scC, ho, hn, hf, hx, if_true, true_and]
        rw [if_pos ⟨by omega, by omega, by omega⟩]
      by_cases hN1 : N = 1
      · subst hN1
        have h2 : faC xss f = 5 := by simp [faC, hs0, hx]
        have h1 : vfR xss f = [] := by simp [vfR, h2]
        rw [h1, h2]
        have HF := Lib.hid hf
        clear hx ha hr ho h1 h2 hman hn hc0 hsys hf hs0
        go_enter Try.func66, Try.ntmps66
        go_wp2_with fail
        refine (iMan_any _ HX.out (HA.out.keep S0.out.below) hN HR.out).mono ?_
        rintro e w1 ⟨rfl, bel⟩
        rw [HO.out]
        have S1 := Lib.hid (S0.out.go bel)
        clear bel hbc
        have hbc := (S1.out.blk (i := 0) rfl).cell (i := 0) rfl
        go_wp2_with fail
        refine (iFlag_bel f _ hpos (cell_be HC0.out S1.out.below) (by omega) HF.out).mono ?_
        rintro e w2 ⟨rfl, bel⟩
        have S2 := Lib.hid (S1.out.go bel)
        clear bel hbc
        have hbc := (S2.out.blk (i := 0) rfl).cell (i := 0) rfl
        go_wp2_with fail
        refine (rank_bel _).mono ?_
        rintro e w3 ⟨rfl, bel⟩
        have S3 := Lib.hid (S2.out.go bel)
        clear bel hbc
        have hbc := (S3.out.blk (i := 0) rfl).cell (i := 0) rfl
        have z0 := (S3.out.blk (i := 1) rfl).cell (i := 0) rfl
        have f0 := (S3.out.blk (i := 1) rfl).free 0
        go_wp2
        have st4 := S3.out.blkSet (i := 1) rfl 0 (.slice none 0 0)
        have y0 := (st4.blk (i := 1) rfl).cell (i := 0) rfl
        refine bodyPost_ret (v := .tuple #[.agg #[.slice none 0 0], .int .i64 5]) (by simp [results, Try.results66, go_sem, y0]) rfl ⟨none, 0, rfl, ownSS_nil _ _ _ _, st4.below⟩
      · have h2 : faC xss f = 0 := by simp [faC, hs0, hx, hN1]
        have h1 : vfR xss f = secAt xss f.toNat 1 (N - 1) := by simp [vfR, h2, hx]
        rw [h1, h2]
        have hf2 : 0 ≤ f ∧ f < (n : Int) := by simpa [flagB] using hf
        have HF := Lib.hid hf
        obtain ⟨f, rfl⟩ := Int.eq_ofNat_of_zero_le hf2.1
        simp only [Int.toNat_natCast]
        obtain ⟨k, hk⟩ : ∃ k, N - 1 = k := ⟨_, rfl⟩
        rw [hk]
        have HSEC := Lib.hid (show secAt xss f 1 k = secL ((xss.drop 1).take (k + 1 - 1)) n f by rw [secAt, hn])
        have hfn : f < n := by omega
        have hik' : 1 ≤ k := by omega
        have hkN : k < N := by omega
        have hne1 : ((N : Int) == 1) = false := by rw [beq_eq_false_iff_ne]; omega
        have hjk : IntKind.i64.wrap ((N : Int) - 1) = (k : Int) := (IntWalk.i64_in _ (by omega)).trans (by omega)
        clear hx ha hr ho h1 h2 hman hn hc0 hsys hf hf2 hs0
        go_enter Try.func66, Try.ntmps66
        go_wp2_with fail
        refine (iMan_any _ HX.out (HA.out.keep S0.out.below) hN HR.out).mono ?_
        rintro e w1 ⟨rfl, bel⟩
        rw [HO.out]
        have S1 := Lib.hid (S0.out.go bel)
        clear bel hbc
        have hbc := (S1.out.blk (i := 0) rfl).cell (i := 0) rfl
        go_wp2_with fail
        refine (iFlag_bel f _ hpos (cell_be HC0.out S1.out.below) (by omega) HF.out).mono ?_
        rintro e w2 ⟨rfl, bel⟩
        have S2 := Lib.hid (S1.out.go bel)
        clear bel hbc
        have hbc := (S2.out.blk (i := 0) rfl).cell (i := 0) rfl
        go_wp2_with fail
        refine (rank_bel _).mono ?_
        rintro e w3 ⟨rfl, bel⟩
        have S3 := Lib.hid (S2.out.go bel)
        clear bel hbc
        have hbc := (S3.out.blk (i := 0) rfl).cell (i := 0) rfl
        have Sd := Lib.hid (S3.out.go (below_drewN (Below.refl _ _) 1))
        obtain ⟨wd, hwd⟩ : ∃ wd, wd = w3.drewN 1 := ⟨_, rfl⟩
        go_wp2
        go_region_law ((first
          | (go_simp; go_at_call 105
             refine (rank_bel _).mono ?_
             rintro e w4 ⟨rfl, bel4⟩
             have S4 := Lib.hid (Sd.out.go bel4)
             have hbc4 := (S4.out.blk (i := 0) rfl).cell (i := 0) rfl)
          | (go_simp; go_at_call 100
             refine (isec_any _ (i := 1) HX.out (HA.out.keep S4.out.below) HS.out (cell_be HC0.out S4.out.below) hfn hik' hkN hcap hc63 (by omega)).mono ?_
             rintro e w5 ⟨A2, c2, rfl, own2, bel2⟩
             obtain ⟨vals, st⟩ := S4.out.addRows bel2 own2 (Nat.le_refl _) (Nat.le_refl _)
             rw [← HSEC.out] at st
             rw [← HSEC.out]
             obtain ⟨l, hl⟩ : ∃ l, (secAt xss f 1 k).length = l := ⟨_, rfl⟩
             rw [hl] at st
             rw [hl]
             have z0 := (st.blk (i := 1) rfl).cell (i := 0) rfl
             have f0 := (st.blk (i := 1) rfl).free 0
             have HL := Lib.hid hl
             have S5 := Lib.hid st
             clear st own2 bel2 hl)))
        all_goals
          have st4 := S5.out.blkSet (i := 1) rfl 0 (.slice A2 l c2)
          have y0 := (st4.blk (i := 1) rfl).cell (i := 0) rfl
          go_wp2
          refine bodyPost_ret (v := .tuple #[.agg #[.slice A2 l c2], .int .i64 0]) (by simp [results, Try.results66, go_sem, y0]) rfl ⟨A2, c2, by rw [HL.out], ?_, st4.below⟩
          rw [HL.out]
          exact st4.sep.ownSS (i := 2) rfl

end Go.Proofs.Ytckmmgepoccopaa
