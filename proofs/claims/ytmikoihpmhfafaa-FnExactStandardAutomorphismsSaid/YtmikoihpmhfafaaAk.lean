/- StandardAutomorphisms: impl's and the spec's. -/
import Derived.Test.YtmikoihpmhfafaaAj
namespace Go.Proofs.Ytmikoihpmhfafaa
open Go.RowKit

set_option maxHeartbeats 6400000 in
set_option maxRecDepth 100000 in
theorem iStandardAutomorphisms_any {A : Option Addr} {c N : Nat} {xss : List (List Int)} (w : World) (hx : xss.length = N) (ha : RdSS w A xss) (hN : N ≤ 1048576) (hr : ∀ xs ∈ xss, (xs.length : Int) ≤ 1048576) :
    Calls Try.prog 68 #[.agg #[.slice A N c]] w fun e w' => ∃ A' c', e = .returned (.tuple #[.slice A' (saR xss).length c', .int .i64 (saC xss)]) ∧ OwnSS w' w.heap.size w'.heap.size 31 A' (saR xss).length c' (saR xss) ∧ Below w.heap.size w w' := by
  have HX := Lib.hid hx
  have HA := Lib.hid ha
  have HR := Lib.hid hr
  have st0 := (St.start w).addBlk #[.slice A N c] 26
  have S0 := Lib.hid st0
  have x0 := (st0.blk (i := 0) rfl).cell (i := 0) rfl
  clear st0
  cases ho : okMan xss
  · have h1 : saR xss = [] := by simp [saR, ho]
    have h2 : saC xss = 1 := by simp [saC, ho]
    rw [h1, h2]
    have HO := Lib.hid ho
    clear hx ha hr ho h1 h2
    go_enter Try.func68, Try.ntmps68
    go_wp2_with fail
    refine (iMan_any _ HX.out (HA.out.keep S0.out.below) hN HR.out).mono ?_
    rintro e w1 ⟨rfl, bel⟩
    rw [HO.out]
    have S1 := Lib.hid (S0.out.go bel)
    have x1 := (S1.out.blk (i := 0) rfl).cell (i := 0) rfl
    clear bel x0
    clear x1
    go_wp2
    go_ret2
    exact ⟨none, 0, rfl, ownSS_nil _ _ _ _, S1.out.below⟩
  · have hman := okMan_iff.1 ho
    have hsys := hman.sys
    have hn2 := hman.f2
    have hn4 := hman.f4
    have hpos := hman.pos hx
    have hN5 := hman.r5
    rw [hx] at hN5
    have hall := hman.all (q := 0) (by omega)
    obtain ⟨b, o, A0, c0, rfl, hc0⟩ := man_row0 hman ha
    have hrs := @reg_some xss
    have hat := @autTo_at xss (flN xss) (flN xss)
    have hsr := fun (g : List Int) (i q : Nat) (L : List Int) => @sa_row xss g i q L
    obtain ⟨SL, hSL⟩ : ∃ SL, saL xss = SL := ⟨_, rfl⟩
    have hSN : SL.length = N := by rw [← hSL, saL_len, hx]
    obtain ⟨n, hn⟩ : ∃ n, flN xss = n := ⟨_, rfl⟩
    obtain ⟨R, hR⟩ : ∃ R, saR xss = R := ⟨_, rfl⟩
    obtain ⟨C, hC⟩ : ∃ C, saC xss = C := ⟨_, rfl⟩
    have hR2 : R = if (autL xss).length = n then SL else [] := by rw [← hR, saR, if_pos ho, hn, hSL]
    have hC2 : C = if (autL xss).length = n then 0 else 5 := by rw [← hC, saC, if_pos ho, hn]
    rw [hR, hC]
    rw [hn] at hc0 hsys hn2 hn4 hall hrs hat hsr
    rw [hSL] at hsr
    have HO := Lib.hid ho
    have HC0 := Lib.hid hc0
    have HS := Lib.hid hsys
    have HALL := Lib.hid hall
    have HRS := Lib.hid hrs
    have HAT := Lib.hid hat
    have HSR := Lib.hid hsr
    have HSN := Lib.hid hSN
    have HR2 := Lib.hid hR2
    have HC2 := Lib.hid hC2
    have HN := Lib.hid hn
    clear hx ha hr ho hman hsys hall hc0 hrs hat hsr hSL hSN hn hR hC hR2 hC2
    by_cases hreg : (autL xss).length = n
    · have hR3 : R = SL := by rw [HR2.out, if_pos hreg]
      have hC3 : C = 0 := by rw [HC2.out, if_pos hreg]
      subst hR3
      subst hC3
      have HREG := Lib.hid hreg
      have HRS2 := Lib.hid (HRS.out hreg)
      have hmk := run_make_row' (P := Try.prog) 24 31 (.slice none 0 0) 24 Try.underlying24 Try.infoS rfl .i64 .i64 N (by omega) (by omega)
      clear hreg
      go_enter Try.func68, Try.ntmps68
      go_wp2_with fail
      refine (iMan_any _ HX.out (HA.out.keep S0.out.below) hN HR.out).mono ?_
      rintro e w1 ⟨rfl, bel⟩
      rw [HO.out]
      have S1 := Lib.hid (S0.out.go bel)
      have x1 := (S1.out.blk (i := 0) rfl).cell (i := 0) rfl
      clear bel x0
      go_wp2_with fail
      refine (iisreg_any _ HO.out HX.out (HA.out.keep S1.out.below)).mono ?_
      rintro e w2 ⟨rfl, bel⟩
      rw [HN.out, decide_eq_true HREG.out]
      have S2 := Lib.hid (S1.out.go bel)
      have x2 := (S2.out.blk (i := 0) rfl).cell (i := 0) rfl
      clear bel x1
      go_wp2_with fail
      refine (rank_bel _).mono ?_
      rintro e w3 ⟨rfl, bel⟩
      have st3 := S2.out.go bel
      obtain ⟨vals0, st4⟩ := st3.addRows ((Below.refl _ _).alloc (Nat.le_refl _) _) (ownSS_make w3 N 31 (by unfold maxLen; omega)) (Nat.le_refl _) (by simp)
      have x4 := (st4.blk (i := 0) rfl).cell (i := 0) rfl
      have S4 := Lib.hid st4
      obtain ⟨g, hg⟩ : ∃ g, w3.heap.size = g := ⟨_, rfl⟩
      clear bel x2 st3 st4
      go_wp2
      clear hmk x4
      rw [hg] at S4
      clear hg
      go_loopw [19] (fun v wr => ∃ (k : Nat) (vals : List Value), k ≤ N ∧ v = .int .i64 k ∧ St w wr [.blk w.heap.size #[.slice (some ⟨b, o, none⟩) N c] 26, .rows 2 31 (some ⟨g, 0, none⟩) N N vals (rwTo R N k [])]) (fun v _ => N - (intOf v).toNat)
      case atStart => exact ⟨0, vals0, Nat.zero_le _, rfl, by rw [rwTo_zero]; simpa using S4.out⟩
      case round =>
        obtain ⟨k, vals, hk, rfl, st⟩ := hrel
        have S := Lib.hid st
        have xk := (st.blk (i := 0) rfl).cell (i := 0) rfl
        clear S4 st
        by_cases hkN : k < N
        · obtain ⟨b2, o2, A2, c2, gg, he, hgg, hcw, hrd, hms⟩ := (HA.out.keep S.out.below).row (k := k) (by rw [HX.out]; exact hkN)
          obtain ⟨rfl, rfl⟩ : b = b2 ∧ o = o2 := by simpa using he
          have hlg := sys_len HS.out hgg
          obtain ⟨l, hl⟩ : ∃ l, gg.length = l := ⟨_, rfl⟩
          rw [hl] at hcw hms hlg
          obtain ⟨b4, o4, y, rfl, hgy, hcy⟩ := hrd.int (k := 0) (by omega)
          obtain ⟨r, rfl, hr0⟩ := sys_at HS.out hgg hgy
          rw [Nat.add_zero] at hcy
          have hrn : r < n := by omega
          obtain ⟨L, hL⟩ := HRS2.out r hrn
          have HL := Lib.hid hL
          have HLL := Lib.hid (isoL_len hL)
          have HROW := Lib.hid (HSR.out gg k r L hgg (show fz gg 0 = (r : Int) from fz_at (p := 0) hgy) hL)
          have kI : (k : Int) < (N : Int) := by omega
          have hn0 : 0 < n := by omega
          have Sd := Lib.hid (S.out.go (below_drewN (Below.refl _ _) 1))
          clear he hgg hgy hrd hL
          go_wp2
          go_region_law ((first
            | (go_simp; go_at_call 126
               refine (iisoTo_some (q := r) _ HX.out (HA.out.keep Sd.out.below) HX.out (HA.out.keep Sd.out.below) hN HS.out HS.out (cell_be HC0.out Sd.out.below) hpos hrn HALL.out HL.out).mono ?_
               rintro e w5 ⟨g5, c5, rfl, own5, bel5⟩
               have st5 := Sd.out.addOwn bel5 own5 (Nat.le_refl _)
               obtain ⟨u, hu⟩ : ∃ u, vals[k]? = some u := ⟨_, List.getElem?_eq_getElem (by have := (st5.rows (i := 1) rfl).1; omega)⟩
               have c3 := own_cell (st5.rows (i := 1) rfl) hu
               have f3 := (st5.rows (i := 1) rfl).frozenAt k
               have st6 := (st5.rowPut (i := 1) (j := 2) (ys := L) rfl rfl HLL.out (by decide) (by decide) hkN).take 2
               have S6 := Lib.hid (show St w _ [.blk w.heap.size #[.slice (some ⟨b, o, none⟩) N c] 26, .rows 2 31 (some ⟨g, 0, none⟩) N N (vals.set k (.slice (some ⟨g5, 0, none⟩) n c5)) (rwTo R N (k + 1) [])] from by
                 rw [← rwTo_next HROW.out, ← rwTo_set hkN (x := [])]
                 exact st6)
               clear own5 bel5 st5 st6 hu)))
          all_goals
            go_wp2
            go_roundw
            case rel => exact ⟨k + 1, _, by omega, by go_num, S6.out⟩
            case measure => simp [intOf]; omega
        · obtain rfl : k = N := by omega
          have h := S.out
          rw [rwTo_all HSN.out] at h
          have S7 := Lib.hid h
          clear h S
          go_wp2
          go_ret2
          exact ⟨some ⟨g, 0, none⟩, k, by rw [HSN.out]; rfl, by rw [HSN.out]; exact S7.out.sep.ownSS (i := 1) rfl, S7.out.below⟩
    · have hR3 : R = [] := by rw [HR2.out, if_neg hreg]
      have hC3 : C = 5 := by rw [HC2.out, if_neg hreg]
      subst hR3
      subst hC3
      have HREG := Lib.hid hreg
      clear hreg
      go_enter Try.func68, Try.ntmps68
      go_wp2_with fail
      refine (iMan_any _ HX.out (HA.out.keep S0.out.below) hN HR.out).mono ?_
      rintro e w1 ⟨rfl, bel⟩
      rw [HO.out]
      have S1 := Lib.hid (S0.out.go bel)
      have x1 := (S1.out.blk (i := 0) rfl).cell (i := 0) rfl
      clear bel x0
      go_wp2_with fail
      refine (iisreg_any _ HO.out HX.out (HA.out.keep S1.out.below)).mono ?_
      rintro e w2 ⟨rfl, bel⟩
      rw [HN.out, decide_eq_false HREG.out]
      have S2 := Lib.hid (S1.out.go bel)
      clear bel x1
      go_wp2
      go_ret2
      exact ⟨none, 0, rfl, ownSS_nil _ _ _ _, S2.out.below⟩

set_option maxHeartbeats 6400000 in
set_option maxRecDepth 100000 in
theorem sStandardAutomorphisms_any {A : Option Addr} {c N : Nat} {xss : List (List Int)} (w : World) (hx : xss.length = N) (ha : RdSS w A xss) (hN : N ≤ 1048576) (hr : ∀ xs ∈ xss, (xs.length : Int) ≤ 1048576) :
    Calls Try.prog 91 #[.agg #[.slice A N c]] w fun e w' => ∃ A' c', e = .returned (.tuple #[.slice A' (saR xss).length c', .int .i64 (saC xss)]) ∧ OwnSS w' w.heap.size w'.heap.size 31 A' (saR xss).length c' (saR xss) ∧ Below w.heap.size w w' := by
  have HX := Lib.hid hx
  have HA := Lib.hid ha
  have HR := Lib.hid hr
  have st0 := (St.start w).addBlk #[.slice A N c] 26
  have S0 := Lib.hid st0
  have x0 := (st0.blk (i := 0) rfl).cell (i := 0) rfl
  clear st0
  cases ho : okMan xss
  · have h1 : saR xss = [] := by simp [saR, ho]
    have h2 : saC xss = 1 := by simp [saC, ho]
    rw [h1, h2]
    have HO := Lib.hid ho
    clear hx ha hr ho h1 h2
    go_enter Try.func91, Try.ntmps91
    go_wp2_with fail
    refine (sIs_any _ HX.out (HA.out.keep S0.out.below) hN HR.out).mono ?_
    rintro e w1 ⟨rfl, bel⟩
    rw [HO.out]
    have S1 := Lib.hid (S0.out.go bel)
    have x1 := (S1.out.blk (i := 0) rfl).cell (i := 0) rfl
    clear bel x0
    clear x1
    go_wp2
    go_ret2
    exact ⟨none, 0, rfl, ownSS_nil _ _ _ _, S1.out.below⟩
  · have hman := okMan_iff.1 ho
    have hsys := hman.sys
    have hn2 := hman.f2
    have hn4 := hman.f4
    have hpos := hman.pos hx
    have hN5 := hman.r5
    rw [hx] at hN5
    have hall := hman.all (q := 0) (by omega)
    obtain ⟨b, o, A0, c0, rfl, hc0⟩ := man_row0 hman ha
    have hrs := @reg_some xss
    have hat := @autTo_at xss (flN xss) (flN xss)
    have hsr := fun (g : List Int) (i q : Nat) (L : List Int) => @sa_row xss g i q L
    obtain ⟨SL, hSL⟩ : ∃ SL, saL xss = SL := ⟨_, rfl⟩
    have hSN : SL.length = N := by rw [← hSL, saL_len, hx]
    obtain ⟨n, hn⟩ : ∃ n, flN xss = n := ⟨_, rfl⟩
    obtain ⟨R, hR⟩ : ∃ R, saR xss = R := ⟨_, rfl⟩
    obtain ⟨C, hC⟩ : ∃ C, saC xss = C := ⟨_, rfl⟩
    have hR2 : R = if (autL xss).length = n then SL else [] := by rw [← hR, saR, if_pos ho, hn, hSL]
    have hC2 : C = if (autL xss).length = n then 0 else 5 := by rw [← hC, saC, if_pos ho, hn]
    rw [hR, hC]
    rw [hn] at hc0 hsys hn2 hn4 hall hrs hat hsr
    rw [hSL] at hsr
    have HO := Lib.hid ho
    have HC0 := Lib.hid hc0
    have HS := Lib.hid hsys
    have HALL := Lib.hid hall
    have HRS := Lib.hid hrs
    have HAT := Lib.hid hat
    have HSR := Lib.hid hsr
    have HSN := Lib.hid hSN
    have HR2 := Lib.hid hR2
    have HC2 := Lib.hid hC2
    have HN := Lib.hid hn
    clear hx ha hr ho hman hsys hall hc0 hrs hat hsr hSL hSN hn hR hC hR2 hC2
    go_enter Try.func91, Try.ntmps91
    go_wp2_with fail
    refine (sIs_any _ HX.out (HA.out.keep S0.out.below) hN HR.out).mono ?_
    rintro e w1 ⟨rfl, bel⟩
    rw [HO.out]
    have S1 := Lib.hid (S0.out.go bel)
    have x1 := (S1.out.blk (i := 0) rfl).cell (i := 0) rfl
    clear bel x0
    have S2 := Lib.hid (S1.out.addMadeRows 2 31)
    have x2 := (S2.out.blk (i := 0) rfl).cell (i := 0) rfl
    clear x1
    go_wp2_with fail
    refine (sauts_any _ HO.out HX.out (HA.out.keep S2.out.below)).mono ?_
    rintro e w3 ⟨A3, m, c3, rfl, hm3, own, bel⟩
    obtain ⟨vals3, st3⟩ := S2.out.addRows bel own (Nat.le_refl _) (Nat.le_refl _)
    have S3 := Lib.hid st3
    have x3 := (st3.blk (i := 0) rfl).cell (i := 0) rfl
    have HM3 := Lib.hid hm3
    clear own bel x2 hm3 st3
    go_wp2_with fail
    refine (sFlags_bel _ hpos (cell_be HC0.out S3.out.below)).mono ?_
    rintro e w4 ⟨rfl, bel⟩
    have S4 := Lib.hid (S3.out.go bel)
    clear bel x3
    by_cases hreg : m = n
    · subst hreg
      have hreg2 : (autL xss).length = m := HM3.out
      have hR3 : R = SL := by rw [HR2.out, if_pos hreg2]
      have hC3 : C = 0 := by rw [HC2.out, if_pos hreg2]
      subst hR3
      subst hC3
      have HRS2 := Lib.hid (HRS.out hreg2)
      have HAT2 := Lib.hid (HAT.out (by have h := hreg2; rw [autL, HN.out] at h; exact h))
      have HAU := Lib.hid (show autL xss = autTo xss m m from by rw [autL, HN.out])
      clear hreg2
      go_wp2
      go_loopw [4, 6] (fun u v wr => ∃ (k c' : Nat) (A' : Option Addr) (vals : List Value), k ≤ N ∧ v = .int .i64 k ∧ u = .slice A' k c' ∧ St w wr [.blk w.heap.size #[.slice (some ⟨b, o, none⟩) N c] 26, .rows 2 31 A' k c' vals (R.take k), .rows 2 31 A3 m c3 vals3 (autL xss)]) (fun _ v _ => N - (intOf v).toNat)
      case atStart => exact ⟨0, 0, _, [], Nat.zero_le _, rfl, rfl, by simpa using S4.out⟩
      case round =>
        obtain ⟨k, c', A', vals, hk, rfl, rfl, st⟩ := hrel
        have S := Lib.hid st
        have xk := (st.blk (i := 0) rfl).cell (i := 0) rfl
        clear S4 st
        by_cases hkN : k < N
        · obtain ⟨b2, o2, A2, c2, gg, he, hgg, hcw, hrd, hms⟩ := (HA.out.keep S.out.below).row (k := k) (by rw [HX.out]; exact hkN)
          obtain ⟨rfl, rfl⟩ : b = b2 ∧ o = o2 := by simpa using he
          have hlg := sys_len HS.out hgg
          obtain ⟨l, hl⟩ : ∃ l, gg.length = l := ⟨_, rfl⟩
          rw [hl] at hcw hms hlg
          obtain ⟨b4, o4, y, rfl, hgy, hcy⟩ := hrd.int (k := 0) (by omega)
          obtain ⟨r, rfl, hr0⟩ := sys_at HS.out hgg hgy
          rw [Nat.add_zero] at hcy
          have hrn : r < m := by omega
          obtain ⟨L, hL⟩ := HRS2.out r hrn
          have HLL := Lib.hid (isoL_len hL)
          have HROW := Lib.hid (HSR.out gg k r L hgg (show fz gg 0 = (r : Int) from fz_at (p := 0) hgy) hL)
          have hal : (autL xss)[r]? = some L := by rw [HAU.out]; exact HAT2.out r hrn L hL
          obtain ⟨A5, c5, hv5, hown5⟩ := S.out.rowAt (i := 2) (k := r) rfl hal
          obtain ⟨g3, rfl⟩ := own_shape (S.out.rows (i := 2) rfl) (show 0 < m by omega)
          have hc5 := own_cell (S.out.rows (i := 2) rfl) hv5
          rw [HLL.out] at hc5 hown5
          have HOWN5 := Lib.hid hown5
          have kI : (k : Int) < (N : Int) := by omega
          have hn0 : 0 < m := by omega
          clear he hgg hgy hrd hL hal hv5 hown5
          go_wp2_with fail
          refine (ownr_any _ HLL.out (own_rd HOWN5.out) (by omega) (by omega)).mono ?_
          rintro e w6 ⟨A6, c6, rfl, own6, bel6⟩
          have S6 := Lib.hid (S.out.addOwn bel6 own6 (Nat.le_refl _))
          have hlo := S6.out.lo
          clear own6 bel6
          go_wp2_with (at_builtin; refine wpList_push_at _ rfl _ _ 24 31 rfl Try.underlying24 (.slice none 0 0) 24 Try.infoS rfl w.heap.size _ _ _ rfl (S6.out.rows (i := 1) rfl) _ rfl rfl (by omega) (by omega) hlo ?_)
          intro A8 c8 w8 own8 gr8 hat8
          have st8 := (S6.out.rowPush (i := 1) (j := 3) rfl rfl HLL.out (by decide) (by decide) own8 gr8 hat8).take 3
          have S8 := Lib.hid st8
          clear own8 gr8 hat8 st8
          go_wp2
          go_roundw
          case rel => exact ⟨k + 1, c8, A8, _, by omega, by go_num, rfl, by rw [List.take_add_one, HROW.out]; exact S8.out⟩
          case measure => simp [intOf]; omega
        · obtain rfl : k = N := by omega
          have h := S.out
          rw [List.take_of_length_le (by rw [HSN.out]; exact Nat.le_refl _)] at h
          have S7 := Lib.hid h
          clear h S
          go_wp2
          go_ret2
          exact ⟨A', c', by rw [HSN.out]; rfl, by rw [HSN.out]; exact S7.out.sep.ownSS (i := 1) rfl, S7.out.below⟩
    · have hreg2 : ¬ (autL xss).length = n := by rw [HM3.out]; exact hreg
      have hR3 : R = [] := by rw [HR2.out, if_neg hreg2]
      have hC3 : C = 5 := by rw [HC2.out, if_neg hreg2]
      subst hR3
      subst hC3
      have hregI : ¬ (m : Int) = (n : Int) := by omega
      clear hreg2
      go_wp2
      go_ret2
      exact ⟨none, 0, rfl, ownSS_nil _ _ _ _, S4.out.below⟩

end Go.Proofs.Ytmikoihpmhfafaa
