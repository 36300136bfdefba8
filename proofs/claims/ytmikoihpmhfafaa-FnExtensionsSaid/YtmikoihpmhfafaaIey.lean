/- impl.extensionCode, ExtendManiplex, ExtendInside (written by giey.py). -/
import Derived.Test.YtmikoihpmhfafaaIin
namespace Go.Proofs.Ytmikoihpmhfafaa
open Go.RowKit

theorem exC_zero {inner : Bool} {xss : List (List Int)} (h : exC xss = 0) : okMan xss = true ∧ xss.length ≠ 5 ∧ flN xss ≤ 200 ∧ exR inner xss = exL inner (flN xss) xss := by
  unfold exC at h
  split at h
  · rename_i h1
    split at h
    · omega
    · rename_i h2
      split at h
      · rename_i h3
        exact ⟨h1, h2, h3, by rw [exR, if_pos ⟨h1, h2, h3⟩]⟩
      · omega
  · omega
theorem exC_not {inner : Bool} {xss : List (List Int)} (h : exC xss ≠ 0) : exR inner xss = [] := by
  rw [exR, if_neg]
  rintro ⟨h1, h2, h3⟩
  exact h (by rw [exC, if_pos h1, if_neg h2, if_pos h3])

set_option maxHeartbeats 1600000 in
theorem iexc_any {A : Option Addr} {c N : Nat} {xss : List (List Int)} (w : World) (hx : xss.length = N) (ha : RdSS w A xss) (hN : N ≤ 1048576) (hr : ∀ xs ∈ xss, (xs.length : Int) ≤ 1048576) :
    Calls Try.prog 95 #[.agg #[.slice A N c]] w fun e w' => e = .returned (.int .i64 (exC xss)) ∧ Below w.heap.size w w' := by
  have HX := Lib.hid hx
  have HA := Lib.hid ha
  have HR := Lib.hid hr
  have st0 := (St.start w).addBlk #[.slice A N c] 26
  have S0 := Lib.hid st0
  have hbc := (st0.blk (i := 0) rfl).cell (i := 0) rfl
  clear st0
  cases ho : okMan xss
  · have h2 : exC xss = 1 := by simp [exC, ho]
    rw [h2]
    have HO := Lib.hid ho
    clear hx ha hr ho h2
    go_enter Try.func95, Try.ntmps95
    go_wp2_with fail
    refine (iMan_any _ HX.out (HA.out.keep S0.out.below) hN HR.out).mono ?_
    rintro e w1 ⟨rfl, bel⟩
    rw [HO.out]
    have S1 := Lib.hid (S0.out.go bel)
    clear bel hbc
    go_wp2
    go_ret
    exact ⟨rfl, S1.out.below⟩
  · have hman := okMan_iff.1 ho
    have hpos := hman.pos hx
    obtain ⟨b, o, A0, c0, rfl, hc0⟩ := man_row0 hman ha
    obtain ⟨n, hn⟩ : ∃ n, flN xss = n := ⟨_, rfl⟩
    rw [hn] at hc0
    have HC0 := Lib.hid hc0
    have HO := Lib.hid ho
    by_cases hN5 : N = 5
    · subst hN5
      have h2 : exC xss = 5 := by simp [exC, ho, hx]
      rw [h2]
      clear hx ha hr ho h2 hman hn hc0
      go_enter Try.func95, Try.ntmps95
      go_wp2_with fail
      refine (iMan_any _ HX.out (HA.out.keep S0.out.below) hN HR.out).mono ?_
      rintro e w1 ⟨rfl, bel⟩
      rw [HO.out]
      have S1 := Lib.hid (S0.out.go bel)
      clear bel hbc
      have hbc := (S1.out.blk (i := 0) rfl).cell (i := 0) rfl
      go_wp2_with fail
      refine (rank_bel _).mono ?_
      rintro e w2 ⟨rfl, bel⟩
      have S2 := Lib.hid (S1.out.go bel)
      clear bel hbc
      go_wp2
      go_ret
      exact ⟨rfl, S2.out.below⟩
    · have hne : ((N : Int) == 5) = false := by rw [beq_eq_false_iff_ne]; omega
      by_cases hn2 : n ≤ 200
      · have h2 : exC xss = 0 := by simp [exC, ho, hx, hN5, hn, hn2]
        rw [h2]
        have hn3 : ¬ (200 : Int) < (n : Int) := by omega
        clear hx ha hr ho h2 hman hn hc0
        go_enter Try.func95, Try.ntmps95
        go_wp2_with fail
        refine (iMan_any _ HX.out (HA.out.keep S0.out.below) hN HR.out).mono ?_
        rintro e w1 ⟨rfl, bel⟩
        rw [HO.out]
        have S1 := Lib.hid (S0.out.go bel)
        clear bel hbc
        have hbc := (S1.out.blk (i := 0) rfl).cell (i := 0) rfl
        go_wp2_with fail
        refine (rank_bel _).mono ?_
        rintro e w2 ⟨rfl, bel⟩
        have S2 := Lib.hid (S1.out.go bel)
        clear bel hbc
        have hbc := (S2.out.blk (i := 0) rfl).cell (i := 0) rfl
        go_wp2_with fail
        refine (flags_bel _ hpos (cell_be HC0.out S2.out.below)).mono ?_
        rintro e w3 ⟨rfl, bel⟩
        have S3 := Lib.hid (S2.out.go bel)
        clear bel hbc
        go_wp2
        go_ret
        exact ⟨rfl, S3.out.below⟩
      · have h2 : exC xss = 3 := by simp [exC, ho, hx, hN5, hn, hn2]
        rw [h2]
        have hn3 : (200 : Int) < (n : Int) := by omega
        clear hx ha hr ho h2 hman hn hc0
        go_enter Try.func95, Try.ntmps95
        go_wp2_with fail
        refine (iMan_any _ HX.out (HA.out.keep S0.out.below) hN HR.out).mono ?_
        rintro e w1 ⟨rfl, bel⟩
        rw [HO.out]
        have S1 := Lib.hid (S0.out.go bel)
        clear bel hbc
        have hbc := (S1.out.blk (i := 0) rfl).cell (i := 0) rfl
        go_wp2_with fail
        refine (rank_bel _).mono ?_
        rintro e w2 ⟨rfl, bel⟩
        have S2 := Lib.hid (S1.out.go bel)
        clear bel hbc
        have hbc := (S2.out.blk (i := 0) rfl).cell (i := 0) rfl
        go_wp2_with fail
        refine (flags_bel _ hpos (cell_be HC0.out S2.out.below)).mono ?_
        rintro e w3 ⟨rfl, bel⟩
        have S3 := Lib.hid (S2.out.go bel)
        clear bel hbc
        go_wp2
        go_ret
        exact ⟨rfl, S3.out.below⟩


set_option maxHeartbeats 3200000 in
set_option maxRecDepth 100000 in
theorem iExtendManiplex_any {A : Option Addr} {c N : Nat} {xss : List (List Int)} (w : World) (hx : xss.length = N) (ha : RdSS w A xss) (hN : N ≤ 1048576) (hr : ∀ xs ∈ xss, (xs.length : Int) ≤ 1048576) :
    Calls Try.prog 24 #[.agg #[.slice A N c]] w (RetMC w (exR false xss) (exC xss)) := by
  have HX := Lib.hid hx
  have HA := Lib.hid ha
  have HR := Lib.hid hr
  have st0 := ((St.start w).addBlk #[.slice A N c] 26).addBlk #[.slice none 0 0] 26
  simp at st0
  have S0 := Lib.hid st0
  have hbc := (st0.blk (i := 0) rfl).cell (i := 0) rfl
  clear st0
  obtain ⟨C, hC⟩ : ∃ C, exC xss = C := ⟨_, rfl⟩
  rw [hC]
  have HC := Lib.hid hC
  by_cases h0 : C = 0
  · subst h0
    obtain ⟨ho, hl5, hf2, hE⟩ := exC_zero (inner := false) hC
    rw [hE]
    have hman := okMan_iff.1 ho
    have hsys := hman.sys
    have hpos := hman.pos hx
    have hN5 := hman.r5
    rw [hx] at hN5
    obtain ⟨b, o, A0, c0, rfl, hc0⟩ := man_row0 hman ha
    obtain ⟨n, hn⟩ : ∃ n, flN xss = n := ⟨_, rfl⟩
    rw [hn] at hc0 hsys hf2 ⊢
    have hn4 : n ≤ 400 := by omega
    have hLN : (exL false n xss).length = N + 1 := by rw [exL_len, hx]
    have HC0 := Lib.hid hc0
    have HS := Lib.hid hsys
    have HLN := Lib.hid hLN
    have hN16 : N ≤ 16 := by omega
    have h64 : (N + 1) * 24 ≤ 140737488355328 := by omega
    have h65 : N + 1 ≤ 9223372036854775807 := by omega
    clear hx ha hr hC ho hl5 hE hman hn hc0 hsys hLN
    go_enter Try.func24, Try.ntmps24
    go_wp2_with fail
    refine (iexc_any _ HX.out (HA.out.keep S0.out.below) hN HR.out).mono ?_
    rintro e w1 ⟨rfl, bel⟩
    rw [HC.out]
    have S1 := Lib.hid (S0.out.go bel)
    have Sd := Lib.hid (S1.out.go (below_drewN (Below.refl _ _) 1))
    clear bel hbc
    have hbc := (S1.out.blk (i := 0) rfl).cell (i := 0) rfl
    go_wp2
    go_region_law ((first
      | (go_simp; go_at_call 96
         refine (imop_any _ HX.out (HA.out.keep Sd.out.below) HS.out hN16).mono ?_
         rintro e w4 ⟨g, vals, rfl, st4⟩
         have S4 := Lib.hid (Sd.out.join st4)
         have hbc4 := (S4.out.blk (i := 0) rfl).cell (i := 0) rfl
         clear st4)
      | (go_simp; go_at_call 97
         refine (imwp_any _ (cell_be HC0.out S4.out.below) hpos hn4).mono ?_
         rintro e w5 ⟨A5, c5, rfl, own5, bel5⟩
         have S5 := Lib.hid (S4.out.addOwn bel5 own5 (Nat.le_refl _))
         have hlo5 := S5.out.lo
         clear own5 bel5)
      | (refine step_push_h rfl (.tmp 12) (.tmp 15) 24 31 rfl Try.underlying24 (.slice none 0 0) 24 Try.infoS rfl w5.heap.size rfl w.heap.size (.slice (some ⟨g, 0, none⟩) N N) N vals (by simp [Act.eval]) (S5.out.rows (i := 2) rfl) (.slice A5 (2 * n) c5) rfl (by simp [Act.eval]) h64 h65 hlo5 ?_
         intro A6 c6 w6 own6 gr6 hat6
         have st6 := S5.out.rowPush (i := 2) (j := 3) (xs := tuL (2 * n)) rfl rfl (tuL_len _) (by decide) (by decide) own6 gr6 hat6
         have S6 := Lib.hid st6
         have z6 := (st6.blk (i := 1) rfl).cell (i := 0) rfl
         have f6 := (st6.blk (i := 1) rfl).free 0
         clear own6 gr6 hat6 st6)))
    all_goals
      have st7 := S6.out.blkSet (i := 1) rfl 0 (.slice A6 (N + 1) c6)
      have y0 := (st7.blk (i := 1) rfl).cell (i := 0) rfl
      go_wp2
      refine bodyPost_ret (v := .tuple #[.agg #[.slice A6 (N + 1) c6], .int .i64 0]) (by simp [results, Try.results24, go_sem, y0]) rfl ⟨A6, c6, by rw [HLN.out], ?_, st7.below⟩
      rw [HLN.out]
      exact st7.sep.ownSS (i := 2) rfl
  · have hE : exR false xss = [] := exC_not (by rw [hC]; exact h0)
    rw [hE]
    have hne : ((C : Int) != 0) = true := by simpa using h0
    clear hx ha hr hC hE
    go_enter Try.func24, Try.ntmps24
    go_wp2_with fail
    refine (iexc_any _ HX.out (HA.out.keep S0.out.below) hN HR.out).mono ?_
    rintro e w1 ⟨rfl, bel⟩
    rw [HC.out]
    have st1 := S0.out.go bel
    have z0 := (st1.blk (i := 1) rfl).cell (i := 0) rfl
    have f0 := (st1.blk (i := 1) rfl).free 0
    have S1 := Lib.hid st1
    clear bel hbc st1
    go_wp2
    have st4 := S1.out.blkSet (i := 1) rfl 0 (.slice none 0 0)
    have y0 := (st4.blk (i := 1) rfl).cell (i := 0) rfl
    refine bodyPost_ret (v := .tuple #[.agg #[.slice none 0 0], .int .i64 C]) (by simp [results, Try.results24, go_sem, y0]) rfl ⟨none, 0, rfl, ownSS_nil _ _ _ _, st4.below⟩


set_option maxHeartbeats 3200000 in
set_option maxRecDepth 100000 in
theorem iExtendInside_any {A : Option Addr} {c N : Nat} {xss : List (List Int)} (w : World) (hx : xss.length = N) (ha : RdSS w A xss) (hN : N ≤ 1048576) (hr : ∀ xs ∈ xss, (xs.length : Int) ≤ 1048576) :
    Calls Try.prog 27 #[.agg #[.slice A N c]] w (RetMC w (exR true xss) (exC xss)) := by
  have HX := Lib.hid hx
  have HA := Lib.hid ha
  have HR := Lib.hid hr
  have st0 := ((St.start w).addBlk #[.slice A N c] 26).addBlk #[.slice none 0 0] 26
  simp at st0
  have S0 := Lib.hid st0
  have hbc := (st0.blk (i := 0) rfl).cell (i := 0) rfl
  clear st0
  obtain ⟨C, hC⟩ : ∃ C, exC xss = C := ⟨_, rfl⟩
  rw [hC]
  have HC := Lib.hid hC
  by_cases h0 : C = 0
  · subst h0
    obtain ⟨ho, hl5, hf2, hE⟩ := exC_zero (inner := true) hC
    rw [hE]
    have hman := okMan_iff.1 ho
    have hsys := hman.sys
    have hpos := hman.pos hx
    have hN5 := hman.r5
    rw [hx] at hN5
    obtain ⟨b, o, A0, c0, rfl, hc0⟩ := man_row0 hman ha
    obtain ⟨n, hn⟩ : ∃ n, flN xss = n := ⟨_, rfl⟩
    rw [hn] at hc0 hsys hf2 ⊢
    have hn4 : n ≤ 400 := by omega
    have hLN : (exL true n xss).length = N + 1 := by rw [exL_len, hx]
    have HC0 := Lib.hid hc0
    have HS := Lib.hid hsys
    have HLN := Lib.hid hLN
    have hN16 : N ≤ 16 := by omega
    have h64 : (N + 1) * 24 ≤ 140737488355328 := by omega
    have h65 : N + 1 ≤ 9223372036854775807 := by omega
    clear hx ha hr hC ho hl5 hE hman hn hc0 hsys hLN
    go_enter Try.func27, Try.ntmps27
    go_wp2_with fail
    refine (iexc_any _ HX.out (HA.out.keep S0.out.below) hN HR.out).mono ?_
    rintro e w1 ⟨rfl, bel⟩
    rw [HC.out]
    have S1 := Lib.hid (S0.out.go bel)
    have Sd := Lib.hid (S1.out.go (below_drewN (Below.refl _ _) 1))
    clear bel hbc
    have hbc := (S1.out.blk (i := 0) rfl).cell (i := 0) rfl
    go_wp2
    go_region_law ((first
      | (go_simp; go_at_call 96
         refine (imop_any _ HX.out (HA.out.keep Sd.out.below) HS.out hN16).mono ?_
         rintro e w4 ⟨g, vals, rfl, st4⟩
         have S4 := Lib.hid (Sd.out.join st4)
         have hbc4 := (S4.out.blk (i := 0) rfl).cell (i := 0) rfl
         clear st4)
      | (go_simp; go_at_call 97
         refine (imwp_any _ (cell_be HC0.out S4.out.below) hpos hn4).mono ?_
         rintro e w5 ⟨A5, c5, rfl, own5, bel5⟩
         have S5 := Lib.hid (S4.out.addOwn bel5 own5 (Nat.le_refl _))
         have hlo5 := S5.out.lo
         have S6 := Lib.hid (S5.out.addLit1 (.slice A5 (2 * n) c5) 31)
         have HU6 := Lib.hid (own_cell (S6.out.own (i := 4) rfl) (show [Value.slice A5 (2 * n) c5][0]? = some (.slice A5 (2 * n) c5) from rfl))
         have HV1 := Lib.hid (rows_one (xss := mvS (2 * n) xss) (vals := vals) (by have := (S5.out.rows (i := 2) rfl).1; have := S5.out.sep.rows_len (i := 2) rfl; omega) (fun j xs hj => by
           obtain ⟨A', c', h1, h2⟩ := S5.out.rowAt (i := 2) rfl hj
           exact ⟨A', c', h1, own_rd h2, own_len h2⟩))
         clear own5 bel5)
      | (go_simp; go_at_call 99
         refine (iins_any _ hpos hN16 (S6.out.rows (i := 2) rfl) HU6.out rfl HV1.out).mono ?_
         rintro e w7 ⟨A7, c7, rfl, own7, bel7⟩
         have st7 := S6.out.addOwn bel7 own7 (Nat.le_refl _)
         have S7 := Lib.hid st7
         have z7 := (st7.blk (i := 1) rfl).cell (i := 0) rfl
         have f7 := (st7.blk (i := 1) rfl).free 0
         clear own7 bel7 st7)))
    all_goals
      have st8 := S7.out.blkSet (i := 1) rfl 0 (.slice A7 (N + 1) c7)
      have y0 := (st8.blk (i := 1) rfl).cell (i := 0) rfl
      go_wp2
      refine bodyPost_ret (v := .tuple #[.agg #[.slice A7 (N + 1) c7], .int .i64 0]) (by simp [results, Try.results27, go_sem, y0]) rfl ⟨A7, c7, by rw [HLN.out], ?_, st8.below⟩
      rw [HLN.out]
      exact st8.sep.consSS (i := 2) (j := 3) (k := 5) rfl rfl (tuL_len _) rfl (by decide)
  · have hE : exR true xss = [] := exC_not (by rw [hC]; exact h0)
    rw [hE]
    have hne : ((C : Int) != 0) = true := by simpa using h0
    clear hx ha hr hC hE
    go_enter Try.func27, Try.ntmps27
    go_wp2_with fail
    refine (iexc_any _ HX.out (HA.out.keep S0.out.below) hN HR.out).mono ?_
    rintro e w1 ⟨rfl, bel⟩
    rw [HC.out]
    have st1 := S0.out.go bel
    have z0 := (st1.blk (i := 1) rfl).cell (i := 0) rfl
    have f0 := (st1.blk (i := 1) rfl).free 0
    have S1 := Lib.hid st1
    clear bel hbc st1
    go_wp2
    have st4 := S1.out.blkSet (i := 1) rfl 0 (.slice none 0 0)
    have y0 := (st4.blk (i := 1) rfl).cell (i := 0) rfl
    refine bodyPost_ret (v := .tuple #[.agg #[.slice none 0 0], .int .i64 C]) (by simp [results, Try.results27, go_sem, y0]) rfl ⟨none, 0, rfl, ownSS_nil _ _ _ _, st4.below⟩

end Go.Proofs.Ytmikoihpmhfafaa
