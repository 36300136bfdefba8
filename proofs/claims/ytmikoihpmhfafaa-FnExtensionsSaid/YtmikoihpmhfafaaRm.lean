/- spec.ReplaceMoves. -/
import Derived.Test.YtmikoihpmhfafaaHo
namespace Go.Proofs.Ytmikoihpmhfafaa
open Go.RowKit

def wsB (xss wss : List (List Int)) : Bool := decide (1 ≤ wss.length ∧ wss.length ≤ 5) && wss.all (wordB xss)
noncomputable def rmR (xss wss : List (List Int)) : List (List Int) := if okMan xss = true ∧ wsB xss wss = true ∧ okMan (repL xss (flN xss) wss) = true then repL xss (flN xss) wss else []
noncomputable def rmC (xss wss : List (List Int)) : Int := if okMan xss = true then (if wsB xss wss = true then (if okMan (repL xss (flN xss) wss) = true then 0 else 5) else 2) else 1
theorem wordB_ok {xss : List (List Int)} {wd : List Int} (h : wordB xss wd = true) : wordOk xss wd = true ∧ (wd.length : Int) ≤ 1048576 := by
  unfold wordB at h
  simp only [Bool.and_eq_true, decide_eq_true_eq] at h
  exact ⟨h.1, by omega⟩

set_option maxHeartbeats 3200000 in
set_option maxRecDepth 8000 in
theorem sReplaceMoves_any {A : Option Addr} {c N : Nat} {xss : List (List Int)} {B1 : Option Addr} {d1 m1 : Nat} {wss : List (List Int)} (w : World) (hx : xss.length = N) (ha : RdSS w A xss) (hN : N ≤ 1048576) (hr : ∀ xs ∈ xss, (xs.length : Int) ≤ 1048576)
    (hy : wss.length = m1) (hb : RdSS w B1 wss) (hm : m1 ≤ 1048576) (hs : ∀ xs ∈ wss, (xs.length : Int) ≤ 1048576) :
    Calls Try.prog 39 #[.agg #[.slice A N c], .slice B1 m1 d1] w (RetMC w (rmR xss wss) (rmC xss wss)) := by
  have HX := Lib.hid hx
  have HA := Lib.hid ha
  have HR := Lib.hid hr
  have HY := Lib.hid hy
  have HB := Lib.hid hb
  have HSW := Lib.hid hs
  have st0 := ((St.start w).addBlk #[.slice A N c] 26).addBlk #[.slice none 0 0] 26
  simp at st0
  have S0 := Lib.hid st0
  have hbc := (st0.blk (i := 0) rfl).cell (i := 0) rfl
  clear st0
  cases ho : okMan xss
  · have h1 : rmR xss wss = [] := by simp [rmR, ho]
    have h2 : rmC xss wss = 1 := by simp [rmC, ho]
    rw [h1, h2]
    have HO := Lib.hid ho
    clear hx ha hr hy hb hs ho h1 h2
    go_enter Try.func39, Try.ntmps39
    go_wp2_with fail
    refine (sIs_any _ HX.out (HA.out.keep S0.out.below) hN HR.out).mono ?_
    rintro e w1 ⟨rfl, bel⟩
    rw [HO.out]
    have st1 := S0.out.go bel
    have z0 := (st1.blk (i := 1) rfl).cell (i := 0) rfl
    have f0 := (st1.blk (i := 1) rfl).free 0
    have S1 := Lib.hid st1
    clear bel hbc st1
    go_wp2
    have st4 := S1.out.blkSet (i := 1) rfl 0 (.slice none 0 0)
    have y0 := (st4.blk (i := 1) rfl).cell (i := 0) rfl
    refine bodyPost_ret (v := .tuple #[.agg #[.slice none 0 0], .int .i64 1]) (by simp [results, Try.results39, go_sem, y0]) rfl ⟨none, 0, rfl, ownSS_nil _ _ _ _, st4.below⟩
  · have hman := okMan_iff.1 ho
    have hsys := hman.sys
    have hn2 := hman.f2
    have hpos := hman.pos hx
    obtain ⟨b, o, A0, c0, rfl, hc0⟩ := man_row0 hman ha
    obtain ⟨n, hn⟩ : ∃ n, flN xss = n := ⟨_, rfl⟩
    rw [hn] at hc0 hsys hn2
    have HC0 := Lib.hid hc0
    have HS := Lib.hid hsys
    have HO := Lib.hid ho
    by_cases hm5 : 1 ≤ m1 ∧ m1 ≤ 5
    · obtain ⟨hm1, hm5⟩ := hm5
      obtain ⟨L, hL⟩ : ∃ L, rmR xss wss = L := ⟨_, rfl⟩
      obtain ⟨C, hC⟩ : ∃ C, rmC xss wss = C := ⟨_, rfl⟩
      rw [hL, hC]
      have HLL := Lib.hid (show L = if wsB xss wss = true ∧ okMan (repL xss n wss) = true then repL xss n wss else [] by rw [← hL, rmR, ho, hn]; simp)
      have HCC := Lib.hid (show C = if wsB xss wss = true then (if okMan (repL xss n wss) = true then 0 else 5) else 2 by rw [← hC, rmC, ho, hn]; simp)
      have HWB := Lib.hid (show wsB xss wss = wss.all (wordB xss) by rw [wsB, hy, decide_eq_true ⟨hm1, hm5⟩, Bool.true_and])
      have hI1 : ¬ (m1 : Int) < 1 := by omega
      have hI5 : ¬ (5 : Int) < (m1 : Int) := by omega
      clear hx ha hr hy hb hs ho hman hn hc0 hsys hL hC
      go_enter Try.func39, Try.ntmps39
      go_wp2_with fail
      refine (sIs_any _ HX.out (HA.out.keep S0.out.below) hN HR.out).mono ?_
      rintro e w1 ⟨rfl, bel⟩
      rw [HO.out]
      have S1 := Lib.hid (S0.out.go bel)
      clear bel hbc
      go_wp2
      go_loopw [6] (fun v wr => ∃ k : Nat, k ≤ m1 ∧ v = .int .i64 k ∧ (∀ (t : Nat) (wd : List Int), t < k → wss[t]? = some wd → wordB xss wd = true) ∧ St w wr [.blk w.heap.size #[.slice (some ⟨b, o, none⟩) N c] 26, .blk (w.heap.size + 1) #[.slice none 0 0] 26]) (fun v _ => m1 - (intOf v).toNat)
      case atStart => exact ⟨0, Nat.zero_le _, rfl, fun t wd h => by omega, S1.out⟩
      case round =>
        obtain ⟨k, hk, rfl, hall, st⟩ := hrel
        have HALL := Lib.hid hall
        have hbc := (st.blk (i := 0) rfl).cell (i := 0) rfl
        have S2 := Lib.hid st
        clear st S1 hall
        by_cases hkm : k < m1
        · obtain ⟨b3, o3, A4, c4, wd, rfl, hg, hc, hrd, hms⟩ := (HB.out.keep S2.out.below).row (k := k) (by rw [HY.out]; exact hkm)
          have hwl := HSW.out wd (List.mem_of_getElem? hg)
          obtain ⟨l, hl⟩ : ∃ l, wd.length = l := ⟨_, rfl⟩
          rw [hl] at hc hms hwl
          have HL := Lib.hid hl
          have HG := Lib.hid hg
          have Sd := Lib.hid (S2.out.go (below_drewN (Below.refl _ _) 1))
          have HRD := Lib.hid (hrd.keep (below_drewN (Below.refl _ _) 1))
          obtain ⟨V, hV⟩ : ∃ V, wordB xss wd = V := ⟨_, rfl⟩
          have HV := Lib.hid hV
          have kI : (k : Int) < (m1 : Int) := by omega
          have hl6 : l ≤ 1048576 := by omega
          clear hg hrd hl S2 hV
          cases V
          · go_wp2
            go_region_law ((refine step_call rfl 118 #[.tmp 28, .tmp 32] #[26, 31] (by rfl) Try.func118 (by rfl) (by rfl) #[.agg #[.slice (some ⟨b, o, none⟩) N c], .slice A4 l c4] (by simp [Act.eval]) _ (sWord_bel _ HX.out hN HL.out HRD.out hl6) ?_; rintro e wc ⟨rfl, bel⟩; rw [HV.out]; refine ⟨_, rfl, ?_⟩))
            all_goals
              have st5 := Sd.out.go bel
              have z0 := (st5.blk (i := 1) rfl).cell (i := 0) rfl
              have f0 := (st5.blk (i := 1) rfl).free 0
              have S5 := Lib.hid st5
              clear bel st5
              go_wp2
              have st4 := S5.out.blkSet (i := 1) rfl 0 (.slice none 0 0)
              have y0 := (st4.blk (i := 1) rfl).cell (i := 0) rfl
              have hno : wsB xss wss = false := by
                rw [HWB.out]
                refine List.all_eq_false.2 ⟨wd, List.mem_of_getElem? HG.out, by rw [HV.out]; simp⟩
              have hL0 : L = [] := by rw [HLL.out, hno]; simp
              have hC2 : C = 2 := by rw [HCC.out, hno]; simp
              refine bodyPost_ret (v := .tuple #[.agg #[.slice none 0 0], .int .i64 2]) (by simp [results, Try.results39, go_sem, y0]) rfl ?_
              rw [hL0, hC2]
              exact ⟨none, 0, rfl, ownSS_nil _ _ _ _, st4.below⟩
          · have HALL2 := Lib.hid (show ∀ (t : Nat) (wd : List Int), t < k + 1 → wss[t]? = some wd → wordB xss wd = true from fun t wd' h1 h2 => by
              by_cases ht : t < k
              · exact HALL.out t wd' ht h2
              · obtain rfl : t = k := by omega
                rw [HG.out] at h2
                injection h2 with h2
                rw [← h2]
                exact HV.out)
            go_wp2
            go_region_law ((refine step_call rfl 118 #[.tmp 28, .tmp 32] #[26, 31] (by rfl) Try.func118 (by rfl) (by rfl) #[.agg #[.slice (some ⟨b, o, none⟩) N c], .slice A4 l c4] (by simp [Act.eval]) _ (sWord_bel _ HX.out hN HL.out HRD.out hl6) ?_; rintro e wc ⟨rfl, bel⟩; rw [HV.out]; refine ⟨_, rfl, ?_⟩))
            all_goals
              have S5 := Lib.hid (Sd.out.go bel)
              clear bel
              go_wp2
              go_roundw
              case rel => exact ⟨k + 1, by omega, by go_num, HALL2.out, S5.out⟩
              case measure => simp [intOf]; omega
        · obtain rfl : k = m1 := by omega
          have hyes : wsB xss wss = true := by
            rw [HWB.out]
            refine List.all_eq_true.2 fun wd hwd => ?_
            obtain ⟨t, ht, hte⟩ := List.mem_iff_getElem.1 hwd
            exact HALL.out t wd (by rw [← HY.out]; exact ht) (by rw [List.getElem?_eq_getElem ht, hte])
          have HYES := Lib.hid hyes
          have HWO := Lib.hid (show ∀ wd ∈ wss, wordOk xss wd = true ∧ (wd.length : Int) ≤ 1048576 from fun wd hwd => wordB_ok (by rw [HWB.out] at hyes; exact List.all_eq_true.1 hyes wd hwd))
          have HRL := Lib.hid (show (repL xss n wss).length = k by rw [repL_len, HY.out])
          obtain ⟨V, hV⟩ : ∃ V, okMan (repL xss n wss) = V := ⟨_, rfl⟩
          have HV := Lib.hid hV
          clear hyes hV
          go_wp2_with fail
          refine (srep_any _ HX.out (HA.out.keep S2.out.below) HS.out (cell_be HC0.out S2.out.below) hpos (by omega) HY.out (HB.out.keep S2.out.below) hm1 hm5 HWO.out).mono ?_
          rintro e w5 ⟨A5, c5, vals5, rfl, st5⟩
          rw [HV.out]
          have st6 := (S2.out.join st5).addBlk #[.slice A5 k c5] 26
          have z0 := (st6.blk (i := 1) rfl).cell (i := 0) rfl
          have f0 := (st6.blk (i := 1) rfl).free 0
          have x0 := (st6.blk (i := 3) rfl).cell (i := 0) rfl
          have S6 := Lib.hid st6
          clear st5 st6 hbc S2
          cases V
          · go_wp2
            have st7 := S6.out.blkSet (i := 1) rfl 0 (.slice none 0 0)
            have y0 := (st7.blk (i := 1) rfl).cell (i := 0) rfl
            have hL0 : L = [] := by rw [HLL.out, HV.out]; simp
            have hC2 : C = 5 := by rw [HCC.out, HYES.out, HV.out]; simp
            refine bodyPost_ret (v := .tuple #[.agg #[.slice none 0 0], .int .i64 5]) (by simp [results, Try.results39, go_sem, y0]) rfl ?_
            rw [hL0, hC2]
            exact ⟨none, 0, rfl, ownSS_nil _ _ _ _, st7.below⟩
          · go_wp2
            have st7 := S6.out.blkSet (i := 1) rfl 0 (.slice A5 k c5)
            have y0 := (st7.blk (i := 1) rfl).cell (i := 0) rfl
            have hL0 : L = repL xss n wss := by rw [HLL.out, HYES.out, HV.out]; simp
            have hC2 : C = 0 := by rw [HCC.out, HYES.out, HV.out]; simp
            refine bodyPost_ret (v := .tuple #[.agg #[.slice A5 k c5], .int .i64 0]) (by simp [results, Try.results39, go_sem, y0]) rfl ?_
            rw [hL0, hC2]
            refine ⟨A5, c5, by rw [HRL.out], ?_, st7.below⟩
            rw [HRL.out]
            exact st7.sep.ownSS (i := 2) rfl
    · have hwb : wsB xss wss = false := by rw [wsB, hy, decide_eq_false hm5, Bool.false_and]
      have h1 : rmR xss wss = [] := by simp [rmR, hwb]
      have h2 : rmC xss wss = 2 := by simp [rmC, ho, hwb]
      rw [h1, h2]
      clear hx ha hr hy hb hs ho h1 h2 hman hn hc0 hsys hwb
      go_enter Try.func39, Try.ntmps39
      go_wp2_with fail
      refine (sIs_any _ HX.out (HA.out.keep S0.out.below) hN HR.out).mono ?_
      rintro e w1 ⟨rfl, bel⟩
      rw [HO.out]
      have st1 := S0.out.go bel
      have z0 := (st1.blk (i := 1) rfl).cell (i := 0) rfl
      have f0 := (st1.blk (i := 1) rfl).free 0
      have S1 := Lib.hid st1
      clear bel hbc st1
      by_cases h5 : (m1 : Int) < 1
      · go_wp2
        have st4 := S1.out.blkSet (i := 1) rfl 0 (.slice none 0 0)
        have y0 := (st4.blk (i := 1) rfl).cell (i := 0) rfl
        refine bodyPost_ret (v := .tuple #[.agg #[.slice none 0 0], .int .i64 2]) (by simp [results, Try.results39, go_sem, y0]) rfl ⟨none, 0, rfl, ownSS_nil _ _ _ _, st4.below⟩
      · have h6 : (5 : Int) < (m1 : Int) := by omega
        go_wp2
        have st4 := S1.out.blkSet (i := 1) rfl 0 (.slice none 0 0)
        have y0 := (st4.blk (i := 1) rfl).cell (i := 0) rfl
        refine bodyPost_ret (v := .tuple #[.agg #[.slice none 0 0], .int .i64 2]) (by simp [results, Try.results39, go_sem, y0]) rfl ⟨none, 0, rfl, ownSS_nil _ _ _ _, st4.below⟩
end Go.Proofs.Ytmikoihpmhfafaa
