/- StabilizerOf: impl's and the spec's. -/
import Derived.Test.YtmgoaabeopnopaaAr
namespace Go.Proofs.Ytmgoaabeopnopaa
open Go.RowKit

theorem fcC_rk {xss : List (List Int)} {i y : Int} (h : rkC xss i ≠ 0) : fcC xss i y (-1) = rkC xss i := by
  unfold rkC at h ⊢
  unfold fcC
  cases ho : okMan xss
  · simp
  · cases hf : flagB xss.length i
    · simp
    · rw [ho, hf] at h; simp at h
theorem fcC_in {xss : List (List Int)} {i y : Int} (h : rkC xss i = 0) : okMan xss = true ∧ flagB xss.length i = true ∧ fcC xss i y (-1) = if y ∈ facL xss (flN xss) i.toNat then 0 else 2 := by
  unfold rkC at h
  split at h
  · rename_i ho
    split at h
    · rename_i hf
      refine ⟨ho, hf, ?_⟩
      have hm := idxL_mem (facL xss (flN xss) i.toNat) y
      have hi : ¬ i = -1 := by obtain ⟨k, rfl, _⟩ := flagB_true hf; omega
      unfold fcC
      rw [if_pos ho, if_pos hf, if_neg hi]
      by_cases hy : y ∈ facL xss (flN xss) i.toNat
      · rw [if_pos hy, if_neg]
        have : decide (0 ≤ idxL (facL xss (flN xss) i.toNat) y) = true := by rw [hm]; exact decide_eq_true hy
        have := of_decide_eq_true this
        omega
      · rw [if_neg hy, if_pos]
        have : decide (0 ≤ idxL (facL xss (flN xss) i.toNat) y) = false := by rw [hm]; exact decide_eq_false hy
        have := of_decide_eq_false this
        omega
    · simp at h
  · simp at h

set_option maxHeartbeats 6400000 in
set_option maxRecDepth 100000 in
theorem sStabilizerOf_any {A : Option Addr} {c N : Nat} {xss : List (List Int)} (i y : Int) (w : World) (hx : xss.length = N) (ha : RdSS w A xss) (hN : N ≤ 1048576) (hr : ∀ xs ∈ xss, (xs.length : Int) ≤ 1048576) :
    Calls Try.prog 71 #[.agg #[.slice A N c], .int .i64 i, .int .i64 y] w fun e w' => ∃ A' c', e = .returned (.tuple #[.slice A' (sbR xss i y).length c', .int .i64 (fcC xss i y (-1))]) ∧ OwnSS w' w.heap.size w'.heap.size 36 A' (sbR xss i y).length c' (sbR xss i y) ∧ Below w.heap.size w w' := by
  have HX := Lib.hid hx
  have HA := Lib.hid ha
  have HR := Lib.hid hr
  have st0 := (St.start w).addBlk #[.slice A N c] 27
  have S0 := Lib.hid st0
  have x0 := (st0.blk (i := 0) rfl).cell (i := 0) rfl
  clear st0
  obtain ⟨C, hC⟩ : ∃ C, rkC xss i = C := ⟨_, rfl⟩
  have HCC := Lib.hid hC
  by_cases hc0 : C = 0
  · subst hc0
    obtain ⟨ho, hf, hfc⟩ := fcC_in (y := y) hC
    obtain ⟨i0, rfl, hi0⟩ := flagB_true hf
    rw [hx] at hi0
    rw [Int.toNat_natCast] at hfc
    have hman := okMan_iff.1 ho
    have hsys := hman.sys
    have hn4 := hman.f4
    have hn2 := hman.f2
    obtain ⟨b, o, A0, c0, rfl, hc0⟩ := man_row0 hman ha
    have hlen := @fL_len xss i0
    have hin := fL_in (i := i0) hman
    have hat := fun (f : Nat) (hf : f < flN xss) => fL_at (i := i0) hman hf
    have hcl := fcn_le (i := i0) hman
    have hok := fun (L : List Int) (h : L ∈ autL xss) => aut_ok hman h
    have hrl := fun (L : List Int) (h : L ∈ autL xss) => autL_rows L h
    have hpl := fun (L : List Int) => @fpL_len xss i0 L
    have hpa := fun (L : List Int) (j : Nat) (hj : j < fcn xss i0) => show (fpL xss i0 L)[j]? = some (fz (fL xss i0) (fz L (idxL (fL xss i0) (j : Int)))) from by rw [fpL, List.getElem?_map, List.getElem?_range hj]; rfl
    obtain ⟨q, hq⟩ : ∃ q, fcn xss i0 = q := ⟨_, rfl⟩
    obtain ⟨FL, hFL⟩ : ∃ FL, fL xss i0 = FL := ⟨_, rfl⟩
    have hFL2 : facL xss (flN xss) i0 = FL := hFL
    obtain ⟨n, hn⟩ : ∃ n, flN xss = n := ⟨_, rfl⟩
    have hsb : sbR xss (i0 : Int) y = if y ∈ FL then (autL xss).filter (fun L => decide (fz FL (fz L (idxL FL y)) = y)) else [] := by
      unfold sbR
      rw [hfc, hFL2]
      by_cases hy : y ∈ FL
      · rw [if_pos hy, if_pos rfl, if_pos hy, sbL, Int.toNat_natCast, hFL]
      · rw [if_neg hy, if_neg (by omega), if_neg hy]
    rw [hFL2] at hfc
    obtain ⟨P, hP⟩ : ∃ P, autL xss = P := ⟨_, rfl⟩
    obtain ⟨R, hR⟩ : ∃ R, sbR xss (i0 : Int) y = R := ⟨_, rfl⟩
    obtain ⟨K, hK⟩ : ∃ K, fcC xss (i0 : Int) y (-1) = K := ⟨_, rfl⟩
    rw [hR, hP] at hsb
    rw [hK] at hfc
    rw [hR, hK]
    rw [hq] at hin hat hcl hpl hpa
    rw [hn] at hsys hn2 hn4 hcl hlen hat hFL2 hrl hc0
    rw [hFL] at hlen hin hat hpa
    have HO := Lib.hid ho
    have HC0 := Lib.hid hc0
    have HS := Lib.hid hsys
    have HLEN := Lib.hid hlen
    have HIN := Lib.hid hin
    have HAT := Lib.hid hat
    have HOK := Lib.hid hok
    have HRR := Lib.hid hrl
    have HPL := Lib.hid hpl
    have HPA := Lib.hid hpa
    have HFL := Lib.hid hFL2
    have HP := Lib.hid hP
    have hPl : (autL xss).length ≤ n := by rw [← hn]; exact autL_len xss
    have HSB := Lib.hid hsb
    have HFC := Lib.hid hfc
    clear hx ha hr hC ho hf hman hsys hlen hin hat hok hrl hpl hpa hq hFL hFL2 hn hsb hP hR hK hfc hc0
    go_enter Try.func71, Try.ntmps71

    go_wp2_with fail
    refine (scode6_any _ _ HX.out (HA.out.keep S0.out.below) hN HR.out).mono ?_
    rintro e w1 ⟨rfl, bel⟩
    rw [HCC.out]
    have S1 := Lib.hid (S0.out.go bel)
    have x1 := (S1.out.blk (i := 0) rfl).cell (i := 0) rfl
    clear bel x0
    go_wp2_with fail
    refine (sfaces_any _ HX.out (HA.out.keep S1.out.below) HS.out (cell_be HC0.out S1.out.below) hi0).mono ?_
    rintro e w2 ⟨A1, c1, rfl, own, bel⟩
    rw [HFL.out] at own
    obtain ⟨g, rfl⟩ := own_shape own (by omega)
    have S2 := Lib.hid (S1.out.addOwn bel own (Nat.le_refl _))
    have x2 := (S2.out.blk (i := 0) rfl).cell (i := 0) rfl
    clear own bel x1
    go_wp2_with fail
    refine (has_any y _ HLEN.out (own_rd (S2.out.own (i := 1) rfl)) (by omega)).mono ?_
    rintro e w3 ⟨rfl, rfl⟩
    by_cases hy : y ∈ FL
    · have hK0 : K = 0 := by rw [HFC.out, if_pos hy]
      have hRR : R = P.filter (fun L => decide (fz FL (fz L (idxL FL y)) = y)) := by rw [HSB.out, if_pos hy]
      subst hK0
      rw [decide_eq_true hy]
      obtain ⟨j0, hj0⟩ := Int.eq_ofNat_of_zero_le (HIN.out y hy).1
      subst hj0
      have hjq : j0 < q := by have := (HIN.out _ hy).2; omega
      have hfi := fz_idx hy
      obtain ⟨f0, hf0⟩ := Int.eq_ofNat_of_zero_le hfi.1
      rw [HLEN.out, hf0] at hfi
      have hfn : f0 < n := by omega
      have HF0 := Lib.hid hf0
      have HRE := Lib.hid hRR
      clear hy hfi hf0 hRR
      go_wp2_with fail
      refine (sauts_any _ HO.out HX.out (HA.out.keep S2.out.below)).mono ?_
      rintro e w4 ⟨A3, m, c3, rfl, hm3, own, bel⟩
      obtain ⟨vals, st4⟩ := S2.out.addRows bel own (Nat.le_refl _) (Nat.le_refl _)
      have S4 := Lib.hid (st4.addMade 36)
      have x4 := (S4.out.blk (i := 0) rfl).cell (i := 0) rfl
      have hm4 : m ≤ n := by omega
      have HM3 := Lib.hid hm3
      clear own bel st4 x2 hm3
      go_wp2_with fail
      refine (sfp_any _ HO.out HX.out (HA.out.keep S4.out.below) hi0 HM3.out (ownSS_rd (S4.out.sep.ownSS (i := 2) rfl))).mono ?_
      rintro e w5 ⟨A5, m5, c5, rfl, hm5, own, bel⟩
      rw [List.length_map, HM3.out] at hm5
      subst hm5
      rw [HP.out] at own
      obtain ⟨vals5, st5⟩ := S4.out.addRows bel own (Nat.le_refl _) (Nat.le_refl _)
      rw [HP.out] at st5
      have HML := Lib.hid (show P.length = m from by rw [← HP.out]; exact HM3.out)
      have S5 := Lib.hid st5
      clear own bel st5 x4
      go_wp2
      go_loopw [10, 12] (fun u v wr => ∃ (k s c' : Nat) (A' : Option Addr) (js : List Nat), k ≤ m ∧ s ≤ k ∧ v = .int .i64 k ∧ u = .slice A' s c' ∧ St w wr [.blk w.heap.size #[.slice (some ⟨b, o, none⟩) N c] 27, .own 2 (some ⟨g, 0, none⟩) n c1 (ints FL), .rows 2 36 A3 m c3 vals P, .own 36 A' s c' (js.map fun j => vals.getD j undef), .rows 2 36 A5 m c5 vals5 (P.map (fpL xss i0))] ∧ Pick P (fun L => decide (fz FL (fz L (idxL FL ((j0 : Nat) : Int))) = ((j0 : Nat) : Int))) k js) (fun _ v _ => m - (intOf v).toNat)
      case atStart => exact ⟨0, 0, 0, _, [], Nat.zero_le _, Nat.le_refl _, rfl, rfl, S5.out, pick_start⟩
      case round =>
        obtain ⟨k, s, c', A', js, hk, hsk, rfl, rfl, st, hpk⟩ := hrel
        have S := Lib.hid st
        have PK := Lib.hid hpk
        clear st hpk S5
        by_cases hkm : k < m
        · obtain ⟨L, hL⟩ : ∃ L, P[k]? = some L := ⟨_, List.getElem?_eq_getElem (by rw [HML.out]; exact hkm)⟩
          have hLm : L ∈ autL xss := by rw [HP.out]; exact List.mem_of_getElem? hL
          obtain ⟨A6, c6, hv6, hown6⟩ := S.out.rowAt (i := 2) (k := k) rfl hL
          obtain ⟨A7, c7, hv7, hown7⟩ := S.out.rowAt (i := 4) (k := k) (xs := fpL xss i0 L) rfl (by rw [List.getElem?_map, hL]; rfl)
          have hLl := HRR.out L hLm
          obtain ⟨r, hr, hrn⟩ := okP_at (HOK.out L hLm) hLl (k := f0) (x := fz L (f0 : Int)) (by have := fz_some (n := n) hLl (x := (f0 : Int)) (by omega) (by omega); simpa using this)
          obtain ⟨v, hv, hvo⟩ := HAT.out r hrn
          have hpv := HPA.out L j0 hjq
          rw [HF0.out, hr, fz_at hvo] at hpv
          rw [HPL.out L] at hv7 hown7
          obtain ⟨g3, rfl⟩ := own_shape (S.out.rows (i := 2) rfl) (show 0 < m by omega)
          obtain ⟨g5, rfl⟩ := own_shape (S.out.rows (i := 4) rfl) (show 0 < m by omega)
          obtain ⟨g7, rfl⟩ := own_shape hown7 (show 0 < q by omega)
          have hc6 := own_cell (S.out.rows (i := 2) rfl) hv6
          have hc7 := own_cell (S.out.rows (i := 4) rfl) hv7
          have hcv := own_cell hown7 (show (ints (fpL xss i0 L))[j0]? = some (.int .i64 v) by rw [ints, List.getElem?_map, hpv]; rfl)
          have kI : (k : Int) < (m : Int) := by omega
          have jI : (j0 : Int) < (q : Int) := by omega
          have hpr : decide (fz FL (fz L (idxL FL ((j0 : Nat) : Int))) = ((j0 : Nat) : Int)) = decide (v = j0) := by rw [HF0.out, hr, fz_at hvo, Bool.eq_iff_iff]; simp; omega
          have HV6 := Lib.hid hv6
          by_cases hvj : v = j0
          · subst hvj
            have PK2 := Lib.hid (pick_yes PK.out hL (hpr.trans (by simp)))
            have hlo2 := S.out.lo
            clear hL hLm hv6 hv7 hown6 hown7 hr hvo hpv hpr hLl
            go_wp2_with (at_builtin; refine wpList_push_at _ rfl _ _ 22 36 rfl Try.underlying22 (.slice none 0 0) 24 Try.infoS rfl w.heap.size _ _ _ rfl (S.out.own (i := 3) rfl) _ rfl rfl (by omega) (by omega) hlo2 ?_)
            intro A8 c8 w8 own8 gr8 hat8
            have S8 := Lib.hid (show St w w8 [.blk w.heap.size #[.slice (some ⟨b, o, none⟩) N c] 27, .own 2 (some ⟨g, 0, none⟩) n c1 (ints FL), .rows 2 36 (some ⟨g3, 0, none⟩) m c3 vals P, .own 36 A8 (s + 1) c8 ((js ++ [k]).map fun j => vals.getD j undef), .rows 2 36 (some ⟨g5, 0, none⟩) m c5 vals5 (P.map (fpL xss i0))] from by
              have h := S.out.push (i := 3) rfl own8 gr8 hat8
              have e : (js ++ [k]).map (fun j => vals.getD j undef) = (js.map fun j => vals.getD j undef) ++ [.slice A6 L.length c6] := by
                rw [List.map_append]
                simp [List.getD, HV6.out]
              rw [e]
              exact h)
            clear own8 gr8 hat8
            go_wp2
            go_roundw
            case rel => exact ⟨k + 1, s + 1, c8, A8, js ++ [k], by omega, by omega, by go_num, rfl, S8.out, PK2.out⟩
            case measure => simp [intOf]; omega
          · have PK2 := Lib.hid (pick_no PK.out hL (hpr.trans (decide_eq_false hvj)))
            have hvI : ¬ (v : Int) = (j0 : Int) := by omega
            clear hL hLm hv6 hv7 hown6 hown7 hr hvo hpv hpr hLl
            go_wp2
            go_roundw
            case rel => exact ⟨k + 1, s, c', A', js, by omega, by omega, by go_num, rfl, S.out, PK2.out⟩
            case measure => simp [intOf]; omega
        · obtain rfl : k = m := by omega
          have hpk := PK.out
          have hfl := hpk.2.2
          rw [List.take_of_length_le (by rw [HML.out]; exact Nat.le_refl _)] at hfl
          have hss := S.out.sel (i := 2) (j := 3) rfl rfl hpk.1 (fun j hj => by rw [HML.out]; exact hpk.2.1 j hj)
          rw [← hfl, ← HRE.out] at hss
          have hsl : R.length = s := by
            rw [HRE.out, hfl, List.length_map]
            have := (S.out.own (i := 3) rfl).1
            simpa using this
          have HSS := Lib.hid hss
          have HSL := Lib.hid hsl
          clear hpk hfl hss hsl
          go_wp2
          go_ret2
          exact ⟨A', c', by rw [HSL.out]; rfl, by rw [HSL.out]; exact HSS.out, S.out.below⟩
    · have hK2 : K = 2 := by rw [HFC.out, if_neg hy]
      have hRR : R = [] := by rw [HSB.out, if_neg hy]
      subst hK2
      subst hRR
      rw [decide_eq_false hy]
      clear hy x2
      go_wp2
      go_ret2
      exact ⟨none, 0, rfl, ownSS_nil _ _ _ _, S2.out.below⟩
  · have h2 : fcC xss i y (-1) = C := by rw [fcC_rk (by rw [hC]; exact hc0), hC]
    have h1 : sbR xss i y = [] := by unfold sbR; rw [if_neg (by rw [h2]; exact hc0)]
    rw [h1, h2]
    clear hx ha hr hC h1 h2
    go_enter Try.func71, Try.ntmps71
    go_wp2_with fail
    refine (scode6_any _ _ HX.out (HA.out.keep S0.out.below) hN HR.out).mono ?_
    rintro e w1 ⟨rfl, bel⟩
    rw [HCC.out]
    have S1 := Lib.hid (S0.out.go bel)
    have x1 := (S1.out.blk (i := 0) rfl).cell (i := 0) rfl
    clear bel x0
    clear x1
    go_wp2
    go_ret2
    exact ⟨none, 0, rfl, ownSS_nil _ _ _ _, S1.out.below⟩

end Go.Proofs.Ytmgoaabeopnopaa
