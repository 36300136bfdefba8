/- impl.DualOf, PetrieOf, OppositeOf, HoleOf, HalfOf (written by giox.py). -/
import Derived.Test.YtmikoihpmhfafaaIo1
import Derived.Test.YtmikoihpmhfafaaIo2
import Derived.Test.YtmikoihpmhfafaaIo3
import Derived.Test.YtmikoihpmhfafaaIo4
import Derived.Test.YtmikoihpmhfafaaIo5
import Derived.Test.YtmikoihpmhfafaaDum
import Derived.Test.YtmikoihpmhfafaaL15
namespace Go.Proofs.Ytmikoihpmhfafaa
open Go.RowKit


set_option maxHeartbeats 1600000 in
set_option maxRecDepth 8000 in
theorem iDualOf_any {A : Option Addr} {c N : Nat} {xss : List (List Int)} (w : World) (hx : xss.length = N) (ha : RdSS w A xss) (hN : N ≤ 1048576) (hr : ∀ xs ∈ xss, (xs.length : Int) ≤ 1048576) :
    Calls Try.prog 35 #[.agg #[.slice A N c]] w (RetMC w (duR xss) (duC xss)) := by
  have HX := Lib.hid hx
  have HA := Lib.hid ha
  have HR := Lib.hid hr
  have st0 := ((St.start w).addBlk #[.slice A N c] 26).addBlk #[.slice none 0 0] 26
  simp at st0
  have S0 := Lib.hid st0
  have hbc := (st0.blk (i := 0) rfl).cell (i := 0) rfl
  clear st0
  cases ho : okMan xss
  · have h1 : duR xss = [] := by simp [duR, ho]
    have h2 : duC xss = 1 := by simp [duC, ho]
    rw [h1, h2]
    have HO := Lib.hid ho
    clear hx ha hr ho h1 h2
    go_enter Try.func35, Try.ntmps35
    go_wp2_with fail
    refine (iMan_any _ HX.out (HA.out.keep S0.out.below) hN HR.out).mono ?_
    rintro e w1 ⟨rfl, bel⟩
    rw [HO.out]
    have st1 := S0.out.go bel
    have z0 := (st1.blk (i := 1) rfl).cell (i := 0) rfl
    have f0 := (st1.blk (i := 1) rfl).free 0
    have S1 := Lib.hid st1
    clear bel hbc st1
    go_wp2
    have st4 := S1.out.blkSet (i := 1) rfl 0 (.slice none 0 0)
    have y0 := (st4.blk (i := 1) rfl).cell (i := 0) rfl
    refine bodyPost_ret (v := .tuple #[.agg #[.slice none 0 0], .int .i64 1]) (by simp [results, Try.results35, go_sem, y0]) rfl ⟨none, 0, rfl, ownSS_nil _ _ _ _, st4.below⟩
  · have hman := okMan_iff.1 ho
    have hsys := hman.sys
    have hn2 := hman.f2
    have hN5 := hman.r5
    have hpos := hman.pos hx
    rw [hx] at hN5
    obtain ⟨b, o, A0, c0, rfl, hc0⟩ := man_row0 hman ha
    obtain ⟨n, hn⟩ : ∃ n, flN xss = n := ⟨_, rfl⟩
    obtain ⟨L, hL⟩ : ∃ L, duR xss = L := ⟨_, rfl⟩
    obtain ⟨C, hC⟩ : ∃ C, duC xss = C := ⟨_, rfl⟩
    rw [hn] at hc0 hsys hn2
    have hn0 : 0 < n := by omega

    have hop : ∀ w' : World, RdSS w' (some ⟨b, o, none⟩) xss → w'.cell? ⟨b, o, none⟩ = some (.slice A0 n c0) → Calls Try.prog 109 #[.agg #[.slice (some ⟨b, o, none⟩) N c], .int .i64 0, .int .i64 0] w' (RetMC w' L C) := by
      intro w' ha' hc'
      rw [← hL, ← hC]
      have e1 : duR xss = rpR xss n (dualW N) := by rw [duR, if_pos ho, rpR, if_pos (by have := dual_man ho; rwa [dualL, hn, hx] at this), dualL, hn, hx]
      have e2 : duC xss = rpC xss n (dualW N) := by rw [duC, if_pos ho, rpC, if_pos (by have := dual_man ho; rwa [dualL, hn, hx] at this)]
      rw [e1, e2]
      exact iopdual_any 0 w' hx ha' hsys hc' hpos hn0 hN5
    rw [hL, hC]
    have HOP := Lib.hid hop
    have HC0 := Lib.hid hc0
    have HO := Lib.hid ho
    clear hx ha hr ho hman hn hc0 hsys hL hC hop
    go_enter Try.func35, Try.ntmps35
    go_wp2_with fail
    refine (iMan_any _ HX.out (HA.out.keep S0.out.below) hN HR.out).mono ?_
    rintro e w1 ⟨rfl, bel⟩
    rw [HO.out]
    have st1 := S0.out.go bel
    clear hbc
    have hbc := (st1.blk (i := 0) rfl).cell (i := 0) rfl
    have S1 := Lib.hid st1
    clear st1 bel
    go_wp2_with fail
    refine (HOP.out _ (HA.out.keep S1.out.below) (cell_be HC0.out S1.out.below)).mono ?_
    rintro e w2 ⟨A2, c2, rfl, own2, bel2⟩
    obtain ⟨vals, st⟩ := S1.out.addRows bel2 own2 (Nat.le_refl _) (Nat.le_refl _)
    have z0 := (st.blk (i := 1) rfl).cell (i := 0) rfl
    have f0 := (st.blk (i := 1) rfl).free 0
    have S3 := Lib.hid st
    clear st own2 bel2 hbc
    go_wp2
    have st4 := S3.out.blkSet (i := 1) rfl 0 (.slice A2 L.length c2)
    have y0 := (st4.blk (i := 1) rfl).cell (i := 0) rfl
    exact bodyPost_ret (v := .tuple #[.agg #[.slice A2 L.length c2], .int .i64 C]) (by simp [results, Try.results35, go_sem, y0]) rfl ⟨A2, c2, rfl, st4.sep.ownSS (i := 2) rfl, st4.below⟩


set_option maxHeartbeats 1600000 in
set_option maxRecDepth 8000 in
theorem iHoleOf_any {A : Option Addr} {c N : Nat} {xss : List (List Int)} (k : Int) (w : World) (hx : xss.length = N) (ha : RdSS w A xss) (hN : N ≤ 1048576) (hr : ∀ xs ∈ xss, (xs.length : Int) ≤ 1048576) :
    Calls Try.prog 40 #[.agg #[.slice A N c], .int .i64 k] w (RetMC w (hoR xss k) (hoC xss k)) := by
  have HX := Lib.hid hx
  have HA := Lib.hid ha
  have HR := Lib.hid hr
  have st0 := ((St.start w).addBlk #[.slice A N c] 26).addBlk #[.slice none 0 0] 26
  simp at st0
  have S0 := Lib.hid st0
  have hbc := (st0.blk (i := 0) rfl).cell (i := 0) rfl
  clear st0
  cases ho : okMan xss
  · have h1 : hoR xss k = [] := by simp [hoR, ho]
    have h2 : hoC xss k = 1 := by simp [hoC, ho]
    rw [h1, h2]
    have HO := Lib.hid ho
    clear hx ha hr ho h1 h2
    go_enter Try.func40, Try.ntmps40
    go_wp2_with fail
    refine (iMan_any _ HX.out (HA.out.keep S0.out.below) hN HR.out).mono ?_
    rintro e w1 ⟨rfl, bel⟩
    rw [HO.out]
    have st1 := S0.out.go bel
    have z0 := (st1.blk (i := 1) rfl).cell (i := 0) rfl
    have f0 := (st1.blk (i := 1) rfl).free 0
    have S1 := Lib.hid st1
    clear bel hbc st1
    go_wp2
    have st4 := S1.out.blkSet (i := 1) rfl 0 (.slice none 0 0)
    have y0 := (st4.blk (i := 1) rfl).cell (i := 0) rfl
    refine bodyPost_ret (v := .tuple #[.agg #[.slice none 0 0], .int .i64 1]) (by simp [results, Try.results40, go_sem, y0]) rfl ⟨none, 0, rfl, ownSS_nil _ _ _ _, st4.below⟩
  · have hman := okMan_iff.1 ho
    have hsys := hman.sys
    have hn2 := hman.f2
    have hN5 := hman.r5
    have hpos := hman.pos hx
    rw [hx] at hN5
    obtain ⟨b, o, A0, c0, rfl, hc0⟩ := man_row0 hman ha
    obtain ⟨n, hn⟩ : ∃ n, flN xss = n := ⟨_, rfl⟩
    obtain ⟨L, hL⟩ : ∃ L, hoR xss k = L := ⟨_, rfl⟩
    obtain ⟨C, hC⟩ : ∃ C, hoC xss k = C := ⟨_, rfl⟩
    rw [hn] at hc0 hsys hn2
    have hn0 : 0 < n := by omega

    by_cases hk : 1 ≤ k ∧ k ≤ 20
    · obtain ⟨k, rfl⟩ := Int.eq_ofNat_of_zero_le (show 0 ≤ k by omega)
      have hk20 : k ≤ 20 := by omega
      have hk1 : 1 ≤ k := by omega
      have hop : ∀ w' : World, RdSS w' (some ⟨b, o, none⟩) xss → w'.cell? ⟨b, o, none⟩ = some (.slice A0 n c0) → Calls Try.prog 109 #[.agg #[.slice (some ⟨b, o, none⟩) N c], .int .i64 3, .int .i64 k] w' (RetMC w' L C) := by
        intro w' ha' hc'
        rw [← hL, ← hC]
        have d1 : hoR xss (k : Int) = thR xss n (holW k) := by rw [hoR, if_pos ⟨ho, hk⟩, hn, Int.toNat_natCast]
        have d2 : hoC xss (k : Int) = thC xss n (holW k) := by rw [hoC, if_pos ho, if_pos hk, hn, Int.toNat_natCast]
        rw [d1, d2]
        by_cases h3 : N = 3
        · subst h3
          have e1 : thR xss n (holW k) = rpR xss n (holW k) := by simp only [thR, rpR, hx, true_and]
          have e2 : thC xss n (holW k) = rpC xss n (holW k) := by simp only [thC, rpC, hx, true_and]
          rw [e1, e2]
          exact iophol_any k w' hx ha' hsys hc' hn0 hk1 hk20
        · have e1 : thR xss n (holW k) = [] := by simp [thR, hx, h3]
          have e2 : thC xss n (holW k) = 5 := by simp [thC, hx, h3]
          rw [e1, e2]
          by_cases h4 : N < 3
          · exact iophol_no _ w' hx ha' hsys hc' h4
          · exact iophol_no2 _ w' hx ha' hsys hc' (by omega)
      have j1 : ¬ (k : Int) < 1 := by omega
      have j2 : ¬ (20 : Int) < (k : Int) := by omega
      rw [hL, hC]
      have HOP := Lib.hid hop
      have HC0 := Lib.hid hc0
      have HO := Lib.hid ho
      clear hx ha hr ho hman hn hc0 hsys hL hC hop hk
      go_enter Try.func40, Try.ntmps40
      go_wp2_with fail
      refine (iMan_any _ HX.out (HA.out.keep S0.out.below) hN HR.out).mono ?_
      rintro e w1 ⟨rfl, bel⟩
      rw [HO.out]
      have st1 := S0.out.go bel
      clear hbc
      have hbc := (st1.blk (i := 0) rfl).cell (i := 0) rfl
      have S1 := Lib.hid st1
      clear st1 bel
      go_wp2_with fail
      refine (HOP.out _ (HA.out.keep S1.out.below) (cell_be HC0.out S1.out.below)).mono ?_
      rintro e w2 ⟨A2, c2, rfl, own2, bel2⟩
      obtain ⟨vals, st⟩ := S1.out.addRows bel2 own2 (Nat.le_refl _) (Nat.le_refl _)
      have z0 := (st.blk (i := 1) rfl).cell (i := 0) rfl
      have f0 := (st.blk (i := 1) rfl).free 0
      have S3 := Lib.hid st
      clear st own2 bel2 hbc
      go_wp2
      have st4 := S3.out.blkSet (i := 1) rfl 0 (.slice A2 L.length c2)
      have y0 := (st4.blk (i := 1) rfl).cell (i := 0) rfl
      exact bodyPost_ret (v := .tuple #[.agg #[.slice A2 L.length c2], .int .i64 C]) (by simp [results, Try.results40, go_sem, y0]) rfl ⟨A2, c2, rfl, st4.sep.ownSS (i := 2) rfl, st4.below⟩
    · have e1 : L = [] := by rw [← hL, hoR, if_neg (fun h => hk h.2)]
      have e2 : C = 2 := by rw [← hC, hoC, if_pos ho, if_neg hk]
      rw [hL, hC, e1, e2]
      have HO := Lib.hid ho
      clear hx ha hr ho hman hn hc0 hsys hL hC e1 e2
      by_cases hk1 : k < 1
      · go_enter Try.func40, Try.ntmps40
        go_wp2_with fail
        refine (iMan_any _ HX.out (HA.out.keep S0.out.below) hN HR.out).mono ?_
        rintro e w1 ⟨rfl, bel⟩
        rw [HO.out]
        have st1 := S0.out.go bel
        have z0 := (st1.blk (i := 1) rfl).cell (i := 0) rfl
        have f0 := (st1.blk (i := 1) rfl).free 0
        have S1 := Lib.hid st1
        clear bel hbc st1 hk
        go_wp2
        have st4 := S1.out.blkSet (i := 1) rfl 0 (.slice none 0 0)
        have y0 := (st4.blk (i := 1) rfl).cell (i := 0) rfl
        refine bodyPost_ret (v := .tuple #[.agg #[.slice none 0 0], .int .i64 2]) (by simp [results, Try.results40, go_sem, y0]) rfl ⟨none, 0, rfl, ownSS_nil _ _ _ _, st4.below⟩
      · have hk2 : (20 : Int) < k := by omega
        go_enter Try.func40, Try.ntmps40
        go_wp2_with fail
        refine (iMan_any _ HX.out (HA.out.keep S0.out.below) hN HR.out).mono ?_
        rintro e w1 ⟨rfl, bel⟩
        rw [HO.out]
        have st1 := S0.out.go bel
        have z0 := (st1.blk (i := 1) rfl).cell (i := 0) rfl
        have f0 := (st1.blk (i := 1) rfl).free 0
        have S1 := Lib.hid st1
        clear bel hbc st1 hk
        go_wp2
        have st4 := S1.out.blkSet (i := 1) rfl 0 (.slice none 0 0)
        have y0 := (st4.blk (i := 1) rfl).cell (i := 0) rfl
        refine bodyPost_ret (v := .tuple #[.agg #[.slice none 0 0], .int .i64 2]) (by simp [results, Try.results40, go_sem, y0]) rfl ⟨none, 0, rfl, ownSS_nil _ _ _ _, st4.below⟩


set_option maxHeartbeats 1600000 in
set_option maxRecDepth 8000 in
theorem iHalfOf_any {A : Option Addr} {c N : Nat} {xss : List (List Int)} (w : World) (hx : xss.length = N) (ha : RdSS w A xss) (hN : N ≤ 1048576) (hr : ∀ xs ∈ xss, (xs.length : Int) ≤ 1048576) :
    Calls Try.prog 41 #[.agg #[.slice A N c]] w (RetMC w (ha5R xss) (ha5C xss)) := by
  have HX := Lib.hid hx
  have HA := Lib.hid ha
  have HR := Lib.hid hr
  have st0 := ((St.start w).addBlk #[.slice A N c] 26).addBlk #[.slice none 0 0] 26
  simp at st0
  have S0 := Lib.hid st0
  have hbc := (st0.blk (i := 0) rfl).cell (i := 0) rfl
  clear st0
  cases ho : okMan xss
  · have h1 : ha5R xss = [] := by simp [ha5R, ho]
    have h2 : ha5C xss = 1 := by simp [ha5C, ho]
    rw [h1, h2]
    have HO := Lib.hid ho
    clear hx ha hr ho h1 h2
    go_enter Try.func41, Try.ntmps41
    go_wp2_with fail
    refine (iMan_any _ HX.out (HA.out.keep S0.out.below) hN HR.out).mono ?_
    rintro e w1 ⟨rfl, bel⟩
    rw [HO.out]
    have st1 := S0.out.go bel
    have z0 := (st1.blk (i := 1) rfl).cell (i := 0) rfl
    have f0 := (st1.blk (i := 1) rfl).free 0
    have S1 := Lib.hid st1
    clear bel hbc st1
    go_wp2
    have st4 := S1.out.blkSet (i := 1) rfl 0 (.slice none 0 0)
    have y0 := (st4.blk (i := 1) rfl).cell (i := 0) rfl
    refine bodyPost_ret (v := .tuple #[.agg #[.slice none 0 0], .int .i64 1]) (by simp [results, Try.results41, go_sem, y0]) rfl ⟨none, 0, rfl, ownSS_nil _ _ _ _, st4.below⟩
  · have hman := okMan_iff.1 ho
    have hsys := hman.sys
    have hn2 := hman.f2
    have hN5 := hman.r5
    have hpos := hman.pos hx
    rw [hx] at hN5
    obtain ⟨b, o, A0, c0, rfl, hc0⟩ := man_row0 hman ha
    obtain ⟨n, hn⟩ : ∃ n, flN xss = n := ⟨_, rfl⟩
    obtain ⟨L, hL⟩ : ∃ L, ha5R xss = L := ⟨_, rfl⟩
    obtain ⟨C, hC⟩ : ∃ C, ha5C xss = C := ⟨_, rfl⟩
    rw [hn] at hc0 hsys hn2
    have hn0 : 0 < n := by omega

    have hop : ∀ w' : World, RdSS w' (some ⟨b, o, none⟩) xss → w'.cell? ⟨b, o, none⟩ = some (.slice A0 n c0) → Calls Try.prog 109 #[.agg #[.slice (some ⟨b, o, none⟩) N c], .int .i64 4, .int .i64 0] w' (RetMC w' L C) := by
      intro w' ha' hc'
      rw [← hL, ← hC]
      have d1 : ha5R xss = thR xss n ha5W := by rw [ha5R, if_pos ho, hn]
      have d2 : ha5C xss = thC xss n ha5W := by rw [ha5C, if_pos ho, hn]
      rw [d1, d2]
      by_cases h3 : N = 3
      · subst h3
        have e1 : thR xss n ha5W = rpR xss n ha5W := by simp only [thR, rpR, hx, true_and]
        have e2 : thC xss n ha5W = rpC xss n ha5W := by simp only [thC, rpC, hx, true_and]
        rw [e1, e2]
        exact iophal_any 0 w' hx ha' hsys hc' hn0
      · have e1 : thR xss n ha5W = [] := by simp [thR, hx, h3]
        have e2 : thC xss n ha5W = 5 := by simp [thC, hx, h3]
        rw [e1, e2]
        by_cases h4 : N < 3
        · exact iophal_no _ w' hx ha' hsys hc' h4
        · exact iophal_no2 _ w' hx ha' hsys hc' (by omega)
    rw [hL, hC]
    have HOP := Lib.hid hop
    have HC0 := Lib.hid hc0
    have HO := Lib.hid ho
    clear hx ha hr ho hman hn hc0 hsys hL hC hop
    go_enter Try.func41, Try.ntmps41
    go_wp2_with fail
    refine (iMan_any _ HX.out (HA.out.keep S0.out.below) hN HR.out).mono ?_
    rintro e w1 ⟨rfl, bel⟩
    rw [HO.out]
    have st1 := S0.out.go bel
    clear hbc
    have hbc := (st1.blk (i := 0) rfl).cell (i := 0) rfl
    have S1 := Lib.hid st1
    clear st1 bel
    go_wp2_with fail
    refine (HOP.out _ (HA.out.keep S1.out.below) (cell_be HC0.out S1.out.below)).mono ?_
    rintro e w2 ⟨A2, c2, rfl, own2, bel2⟩
    obtain ⟨vals, st⟩ := S1.out.addRows bel2 own2 (Nat.le_refl _) (Nat.le_refl _)
    have z0 := (st.blk (i := 1) rfl).cell (i := 0) rfl
    have f0 := (st.blk (i := 1) rfl).free 0
    have S3 := Lib.hid st
    clear st own2 bel2 hbc
    go_wp2
    have st4 := S3.out.blkSet (i := 1) rfl 0 (.slice A2 L.length c2)
    have y0 := (st4.blk (i := 1) rfl).cell (i := 0) rfl
    exact bodyPost_ret (v := .tuple #[.agg #[.slice A2 L.length c2], .int .i64 C]) (by simp [results, Try.results41, go_sem, y0]) rfl ⟨A2, c2, rfl, st4.sep.ownSS (i := 2) rfl, st4.below⟩

end Go.Proofs.Ytmikoihpmhfafaa
