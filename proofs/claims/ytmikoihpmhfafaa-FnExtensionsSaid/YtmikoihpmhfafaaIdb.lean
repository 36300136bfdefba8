/- impl.Maniplex.doneBy, replaced. -/
import Derived.Test.YtmikoihpmhfafaaIdn
import Derived.Test.YtmikoihpmhfafaaL17
namespace Go.Proofs.Ytmikoihpmhfafaa
open Go.RowKit

theorem wpL_nil (xss : List (List Int)) (n : Nat) : wpL xss n [] = unitL n := rfl
theorem wpL_snoc {xss : List (List Int)} {n g : Nat} {l m : List Int} (h : xss[g]? = some m) : thenL (wpL xss n l) m = wpL xss n (l ++ [(g : Int)]) := by
  simp [thenL, wpL, runW, List.foldl_append, stepW, List.getD, h]
theorem wpL_in {xss : List (List Int)} {n : Nat} {l : List Int} (hsys : okSys n xss = true) (hw : wordOk xss l = true) : InR (wpL xss n l) n := fun x hx => by
  obtain ⟨f, hf, rfl⟩ := List.mem_map.1 hx
  have := List.mem_range.1 hf
  exact runW_in hsys l _ hw (by omega) (by omega)
theorem wordOk_take {xss : List (List Int)} {l : List Int} (h : wordOk xss l = true) (k : Nat) : wordOk xss (l.take k) = true :=
  decide_eq_true fun x hx => (of_decide_eq_true h) x (List.mem_of_mem_take hx)
/-- The result of replacing moves and its code. -/
noncomputable def rpR (xss : List (List Int)) (n : Nat) (wss : List (List Int)) : List (List Int) := if okMan (repL xss n wss) = true then repL xss n wss else []
noncomputable def rpC (xss : List (List Int)) (n : Nat) (wss : List (List Int)) : Int := if okMan (repL xss n wss) = true then 0 else 5

set_option maxHeartbeats 1600000 in
set_option maxRecDepth 8000 in
theorem idone_any {b o c N n c0 M d : Nat} {A0 B : Option Addr} {xss : List (List Int)} {wd : List Int} (w : World) (hx : xss.length = N) (ha : RdSS w (some ⟨b, o, none⟩) xss) (hsys : okSys n xss = true) (h0 : w.cell? ⟨b, o, none⟩ = some (.slice A0 n c0)) (hpos : 0 < N)
    (hl : wd.length = M) (hb : Rd w B (ints wd)) (hw : wordOk xss wd = true) (hM : M ≤ 1048576) :
    Calls Try.prog 172 #[.agg #[.slice (some ⟨b, o, none⟩) N c], .slice B M d] w (RetN w (wpL xss n wd) n) := by
  have hn4 := (sys_parts hsys).2.1
  have HX := Lib.hid hx
  have HA := Lib.hid ha
  have HS := Lib.hid hsys
  have HC0 := Lib.hid h0
  have HL := Lib.hid hl
  have HB := Lib.hid hb
  have HW := Lib.hid hw
  have st0 := (St.start w).addBlk #[.slice (some ⟨b, o, none⟩) N c] 26
  have S0 := Lib.hid st0
  have hbc := (st0.blk (i := 0) rfl).cell (i := 0) rfl
  clear hx ha hsys h0 hl hb hw st0
  go_enter Try.func172, Try.ntmps172
  go_wp2_with fail
  refine (flags_bel _ hpos (cell_be HC0.out S0.out.below)).mono ?_
  rintro e w1 ⟨rfl, bel⟩
  have S1 := Lib.hid (S0.out.go bel)
  clear bel hbc S0
  go_wp2_with fail
  refine (ident_any n _ (by omega)).mono ?_
  rintro e w2 ⟨rfl, st2⟩
  have S2 := Lib.hid (S1.out.join st2)
  clear st2 S1
  go_wp2
  go_loopw [5, 13] (fun u v wr => ∃ (k c' : Nat) (A' : Option Addr), k ≤ M ∧ u = .slice A' n c' ∧ v = .int .i64 k ∧ St w wr [.blk w.heap.size #[.slice (some ⟨b, o, none⟩) N c] 26, .own 2 A' n c' (ints (wpL xss n (wd.take k)))]) (fun _ v _ => M - (intOf v).toNat)
  case atStart => exact ⟨0, n, _, Nat.zero_le _, rfl, rfl, S2.out⟩
  case round =>
    obtain ⟨k, c', A', hk, rfl, rfl, st⟩ := hrel
    clear S2
    by_cases hkM : k < M
    · obtain ⟨b2, o2, x, rfl, hxk, hcw⟩ := (HB.out.keep st.below).int (k := k) (by rw [HL.out]; exact hkM)
      have hxr := (of_decide_eq_true HW.out : ∀ x ∈ wd, 0 ≤ x ∧ x < (xss.length : Int)) x (List.mem_of_getElem? hxk)
      obtain ⟨g, rfl⟩ := Int.eq_ofNat_of_zero_le hxr.1
      have hgN : g < N := by rw [HX.out] at hxr; omega
      obtain ⟨b3, o3, A4, c4, mv, he, hmv, hcm, hrd, hms⟩ := (HA.out.keep st.below).row (k := g) (by rw [HX.out]; exact hgN)
      obtain ⟨rfl, rfl⟩ : b = b3 ∧ o = o3 := by simpa using he
      have hml : mv.length = n := by have := sys_len HS.out hmv; omega
      rw [hml] at hcm
      have hbc := (st.blk (i := 0) rfl).cell (i := 0) rfl
      have gI : (g : Int) < (N : Int) := by omega
      have HT := Lib.hid (show wd.take (k + 1) = wd.take k ++ [(g : Int)] by rw [List.take_add_one, hxk]; rfl)
      have HMV := Lib.hid hmv
      have HML := Lib.hid hml
      have HRD := Lib.hid hrd
      have S3 := Lib.hid st
      clear st hxk hxr he hmv hrd hms hml
      go_wp2_with fail
      refine (ithen_any _ (wpL_len) (own_rd (S3.out.own (i := 1) rfl)) (by omega) HML.out HRD.out (wpL_in HS.out (wordOk_take HW.out k))).mono ?_
      rintro e w3 ⟨A5, c5, rfl, own5, bel5⟩
      rw [thenL_length, wpL_len, wpL_snoc HMV.out, ← HT.out] at own5
      rw [thenL_length, wpL_len]
      have S5 := Lib.hid (show St w w3 [.blk w.heap.size #[.slice (some ⟨b, o, none⟩) N c] 26, .own 2 A5 n c5 (ints (wpL xss n (wd.take (k + 1))))] from (S3.out.addOwn bel5 own5 (Nat.le_refl _)).drop 1)
      clear own5 bel5 hbc hcw hcm
      go_wp2
      go_roundw
      case rel => exact ⟨k + 1, c5, A5, by omega, rfl, by go_num, S5.out⟩
      case measure => simp [intOf]; omega
    · obtain rfl : k = M := by omega
      rw [List.take_of_length_le (by rw [HL.out]; exact Nat.le_refl _)] at st
      have S3 := Lib.hid st
      clear st
      go_wp2
      go_ret
      exact ⟨A', c', rfl, S3.out.own (i := 1) rfl, S3.out.below⟩

abbrev irpPs (H M : Nat) (m : Value) (vals : List Value) (L : List (List Int)) : List Pc :=
  [.blk H #[m] 26, .blk (H + 1) #[.slice none 0 0] 26, .rows 2 31 (some ⟨H + 2, 0, none⟩) M M vals L]

set_option maxHeartbeats 3200000 in
set_option maxRecDepth 100000 in
theorem irep_any {b o c N n c0 M d : Nat} {A0 B : Option Addr} {xss wss : List (List Int)} (w : World) (hx : xss.length = N) (ha : RdSS w (some ⟨b, o, none⟩) xss) (hsys : okSys n xss = true) (h0 : w.cell? ⟨b, o, none⟩ = some (.slice A0 n c0)) (hpos : 0 < N) (hn : 0 < n)
    (hy : wss.length = M) (hb : RdSS w B wss) (hM1 : 1 ≤ M) (hM : M ≤ 5) (hw : ∀ wd ∈ wss, wordOk xss wd = true ∧ (wd.length : Int) ≤ 1048576) :
    Calls Try.prog 116 #[.agg #[.slice (some ⟨b, o, none⟩) N c], .slice B M d] w (RetMC w (rpR xss n wss) (rpC xss n wss)) := by
  have hn4 := (sys_parts hsys).2.1
  have hks := wdsL_sys (wss := wss) hsys (by omega) (fun wd h => (hw wd h).1)
  have hkl : (wdsL xss n wss).length = M := by rw [wdsL_len, hy]
  have HX := Lib.hid hx
  have HA := Lib.hid ha
  have HS := Lib.hid hsys
  have HC0 := Lib.hid h0
  have HY := Lib.hid hy
  have HB := Lib.hid hb
  have HW := Lib.hid hw
  have HKS := Lib.hid hks
  have HKL := Lib.hid hkl
  have hmk := run_make_row' (P := Try.prog) 24 31 (.slice none 0 0) 24 Try.underlying24 Try.infoS rfl .i64 .i64 M (by omega) (by omega)
  have st0 := ((St.start w).addBlk #[.slice (some ⟨b, o, none⟩) N c] 26).addBlk #[.slice none 0 0] 26
  simp at st0
  obtain ⟨vals0, st1⟩ := st0.addRows (below1 _ _) (ownSS_make _ M 31 (by unfold maxLen; omega)) (Nat.le_refl _) (by simp)
  have S1 := Lib.hid st1
  obtain ⟨m1, hm1⟩ : ∃ m1, M - 1 = m1 := ⟨_, rfl⟩
  have jm : IntKind.i64.wrap ((M : Int) - 1) = (m1 : Int) := (IntWalk.i64_in _ (by omega)).trans (by omega)
  have hm2 : m1 + 1 = M := by omega
  clear hx ha hsys h0 hy hb hw hks hkl st0 st1 hm1
  go_enter Try.func116, Try.ntmps116
  go_wp2
  clear hmk
  go_loopw [15] (fun v wr => ∃ (k : Nat) (vals : List Value), k ≤ M ∧ v = .int .i64 k ∧ St w wr (irpPs w.heap.size M (.slice (some ⟨b, o, none⟩) N c) vals (rwTo (wdsL xss n wss) M k []))) (fun v _ => M - (intOf v).toNat)
  case atStart => exact ⟨0, vals0, Nat.zero_le _, rfl, by rw [rwTo_zero]; simpa using S1.out⟩
  case round =>
    obtain ⟨k, vals, hk, rfl, st⟩ := hrel
    clear S1
    by_cases hkM : k < M
    · obtain ⟨b2, o2, A2, c2, wd, rfl, hwd, hcw, hrd, hms⟩ := (HB.out.keep st.below).row (k := k) (by rw [HY.out]; exact hkM)
      have hwo := HW.out wd (List.mem_of_getElem? hwd)
      obtain ⟨l, hl⟩ : ∃ l, wd.length = l := ⟨_, rfl⟩
      rw [hl] at hcw hwo
      have hbc := (st.blk (i := 0) rfl).cell (i := 0) rfl
      have HRD := Lib.hid hrd
      have HLW := Lib.hid hl
      have HWO := Lib.hid hwo.1
      have hl1 : l ≤ 1048576 := by have := hwo.2; omega
      have HWD := Lib.hid (show (wdsL xss n wss)[k]? = some (wpL xss n wd) by simp [wdsL, hwd])
      have S3 := Lib.hid st
      have kI : (k : Int) < (M : Int) := by omega
      clear st hwd hwo hrd hms hl
      go_wp2_with fail
      refine (idone_any _ HX.out (HA.out.keep S3.out.below) HS.out (cell_be HC0.out S3.out.below) hpos HLW.out HRD.out HWO.out hl1).mono ?_
      rintro e w3 ⟨A5, c5, rfl, own5, bel5⟩
      have st4 := S3.out.addOwn bel5 own5 (Nat.le_refl _)
      obtain ⟨u, hu⟩ : ∃ u, vals[k]? = some u := ⟨_, List.getElem?_eq_getElem (by have := (st4.rows (i := 2) rfl).1; omega)⟩
      have c3 := own_cell (st4.rows (i := 2) rfl) hu
      have f3 := (st4.rows (i := 2) rfl).frozenAt k
      have st5 := (st4.rowPut (i := 2) (j := 3) (ys := wpL xss n wd) rfl rfl wpL_len (by decide) (by decide) hkM).take 3
      have S5 := Lib.hid (show St w _ (irpPs w.heap.size M (.slice (some ⟨b, o, none⟩) N c) (vals.set k (.slice A5 n c5)) (rwTo (wdsL xss n wss) M (k + 1) [])) from by
        rw [← rwTo_next HWD.out, ← rwTo_set hkM (x := [])]
        exact st5)
      clear own5 bel5 st4 st5 hu hbc hcw S3
      go_wp2
      go_roundw
      case rel => exact ⟨k + 1, _, by omega, by go_num, S5.out⟩
      case measure => simp [intOf]; omega
    · obtain rfl : k = M := by omega
      rw [rwTo_all HKL.out] at st
      have hss := st.sep.ownSS (i := 2) rfl
      have hrd := ownSS_rd hss
      obtain ⟨b6, o6, A6, c6, xs6, hA6, hg6, hc6, _, _⟩ := hrd.row (k := 0) (by rw [HKL.out]; omega)
      have hl6 : xs6.length = n := by have := sys_len HKS.out hg6; omega
      obtain ⟨rfl, rfl⟩ : w.heap.size + 2 = b6 ∧ 0 = o6 := by simpa using hA6
      rw [hl6, Nat.add_zero] at hc6
      have HRD := Lib.hid hrd
      have HC6 := Lib.hid hc6
      have S2 := Lib.hid st
      clear st hss hrd hg6 hc6 hl6 hA6
      go_wp2_with fail
      refine (isec_any _ (i := 0) (k := m1) (f := 0) HKL.out HRD.out HKS.out HC6.out hn (by omega) (by omega) (Nat.le_refl _) (by omega) (by omega)).mono ?_
      rintro e w2 ⟨A2, c2, rfl, own2, bel2⟩
      obtain ⟨vals2, st⟩ := S2.out.addRows bel2 own2 (Nat.le_refl _) (Nat.le_refl _)
      have hrep : secL (((wdsL xss n wss).drop 0).take (m1 + 1 - 0)) n 0 = repL xss n wss := by
        rw [List.drop_zero, Nat.sub_zero, hm2, List.take_of_length_le (by rw [HKL.out]; exact Nat.le_refl _)]
        rfl
      rw [hrep] at st ⊢
      have hrl : (repL xss n wss).length = k := by rw [repL, secL_len, HKL.out]
      rw [hrl] at st ⊢
      have st3 := st.addBlk #[.slice A2 k c2] 26
      have hpa := (orb_facts HKS.out hn).1
      have hrr : ∀ xs ∈ repL xss n wss, (xs.length : Int) ≤ 1048576 := fun xs hxs => by
        obtain ⟨m, _, rfl⟩ := List.mem_map.1 hxs
        have := passed_len hpa
        rw [secRow_len]
        omega
      have S3 := Lib.hid st3
      have HRL := Lib.hid hrl
      have HRR := Lib.hid hrr
      have o0 := (st3.blk (i := 4) rfl).cell (i := 0) rfl
      have hM6 : k ≤ 1048576 := by omega
      clear st st3 own2 bel2 hrep hrl hrr hpa HRD HC6 S2
      go_wp2_with fail
      refine (iMan_any _ HRL.out (ownSS_rd (S3.out.sep.ownSS (i := 3) rfl)) hM6 HRR.out).mono ?_
      rintro e w4 ⟨rfl, bel4⟩
      obtain ⟨V, hV⟩ : ∃ V, okMan (repL xss n wss) = V := ⟨_, rfl⟩
      have S4 := Lib.hid (S3.out.go bel4)
      rw [hV]
      clear bel4 o0
      have o0 := (S4.out.blk (i := 4) rfl).cell (i := 0) rfl
      have r0 := (S4.out.blk (i := 1) rfl).cell (i := 0) rfl
      have g0 := (S4.out.blk (i := 1) rfl).free 0
      cases V
      · have HE := Lib.hid (show rpR xss n wss = [] ∧ rpC xss n wss = 5 by simp [rpR, rpC, hV])
        clear hV
        go_wp2
        have st7 := S4.out.blkSet (i := 1) rfl 0 (.slice none 0 0)
        have y0 := (st7.blk (i := 1) rfl).cell (i := 0) rfl
        refine bodyPost_ret (v := .tuple #[.agg #[.slice none 0 0], .int .i64 5]) (by simp [results, Try.results116, go_sem, y0]) rfl ?_
        rw [HE.out.1, HE.out.2]
        exact ⟨none, 0, rfl, ownSS_nil _ _ _ _, st7.below⟩
      · have HE := Lib.hid (show rpR xss n wss = repL xss n wss ∧ rpC xss n wss = 0 by simp [rpR, rpC, hV])
        clear hV
        go_wp2
        have st7 := S4.out.blkSet (i := 1) rfl 0 (.slice A2 k c2)
        have y0 := (st7.blk (i := 1) rfl).cell (i := 0) rfl
        refine bodyPost_ret (v := .tuple #[.agg #[.slice A2 k c2], .int .i64 0]) (by simp [results, Try.results116, go_sem, y0]) rfl ?_
        rw [HE.out.1, HE.out.2]
        refine ⟨A2, c2, by rw [HRL.out], ?_, st7.below⟩
        rw [HRL.out]
        exact st7.sep.ownSS (i := 3) rfl
end Go.Proofs.Ytmikoihpmhfafaa
