/- impl.StabilizerOf. -/
import Derived.Test.YtmgoaabeopnopaaAs
namespace Go.Proofs.Ytmgoaabeopnopaa
open Go.RowKit

set_option maxHeartbeats 6400000 in
set_option maxRecDepth 100000 in
theorem iStabilizerOf_any {A : Option Addr} {c N : Nat} {xss : List (List Int)} (i y : Int) (w : World) (hx : xss.length = N) (ha : RdSS w A xss) (hN : N ≤ 1048576) (hr : ∀ xs ∈ xss, (xs.length : Int) ≤ 1048576) (hcap : N ≤ c) (hc63 : c ≤ 9223372036854775807) :
    Calls Try.prog 70 #[.agg #[.slice A N c], .int .i64 i, .int .i64 y] w fun e w' => ∃ A' c', e = .returned (.tuple #[.slice A' (sbR xss i y).length c', .int .i64 (fcC xss i y (-1))]) ∧ OwnSS w' w.heap.size w'.heap.size 36 A' (sbR xss i y).length c' (sbR xss i y) ∧ Below w.heap.size w w' := by
  have HX := Lib.hid hx
  have HA := Lib.hid ha
  have HR := Lib.hid hr
  have st0 := (St.start w).addBlk #[.slice A N c] 27
  have S0 := Lib.hid st0
  have x0 := (st0.blk (i := 0) rfl).cell (i := 0) rfl
  clear st0
  obtain ⟨K, hK⟩ : ∃ K, fcC xss i y (-1) = K := ⟨_, rfl⟩
  obtain ⟨F0, hF0⟩ : ∃ F, fcF xss i y (-1) = F := ⟨_, rfl⟩
  have HKK := Lib.hid hK
  have HFF := Lib.hid hF0
  rw [hK]
  by_cases hK0 : K = 0
  · subst hK0
    obtain ⟨ho, hf, hix, _⟩ := fcC_zero hK
    obtain ⟨i0, rfl, hi0⟩ := flagB_true hf
    rw [hx] at hi0
    rw [Int.toNat_natCast] at hix
    have hman := okMan_iff.1 ho
    have hsys := hman.sys
    have hn4 := hman.f4
    have hn2 := hman.f2
    obtain ⟨b, o, A0, c0, rfl, hc0⟩ := man_row0 hman ha
    have hlen := @fL_len xss i0
    have hin := fL_in (i := i0) hman
    have hat := fun (f : Nat) (hf : f < flN xss) => fL_at (i := i0) hman hf
    have hok := fun (L : List Int) (h : L ∈ autL xss) => aut_ok hman h
    have hrl := fun (L : List Int) (h : L ∈ autL xss) => autL_rows L h
    have hbd := idxL_bd (facL xss (flN xss) i0) y
    obtain ⟨FL, hFL⟩ : ∃ FL, fL xss i0 = FL := ⟨_, rfl⟩
    have hFL2 : facL xss (flN xss) i0 = FL := hFL
    have hff : F0 = idxL FL y := by rw [← hF0, fcF, if_pos hK, Int.toNat_natCast, hFL2]
    obtain ⟨n, hn⟩ : ∃ n, flN xss = n := ⟨_, rfl⟩
    have hsb : sbR xss (i0 : Int) y = (autL xss).filter (fun L => decide (fz FL (fz L (idxL FL y)) = y)) := by
      unfold sbR
      rw [if_pos hK, sbL, Int.toNat_natCast, hFL]
    obtain ⟨P, hP⟩ : ∃ P, autL xss = P := ⟨_, rfl⟩
    obtain ⟨R, hR⟩ : ∃ R, sbR xss (i0 : Int) y = R := ⟨_, rfl⟩
    rw [hR, hP] at hsb
    rw [hR]
    rw [hn] at hsys hn2 hn4 hlen hat hFL2 hrl hc0
    rw [hFL] at hlen hin hat
    have hFL3 : facL xss (flN xss) i0 = FL := hFL
    rw [hFL3] at hix hbd
    rw [hlen] at hbd
    obtain ⟨f0, hf0⟩ := Int.eq_ofNat_of_zero_le hix
    rw [hf0] at hbd hff
    have hfn : f0 < n := by omega
    subst hff
    have HO := Lib.hid ho
    have HC0 := Lib.hid hc0
    have HS := Lib.hid hsys
    have HLEN := Lib.hid hlen
    have HIN := Lib.hid hin
    have HAT := Lib.hid hat
    have HOK := Lib.hid hok
    have HRR := Lib.hid hrl
    have HFL := Lib.hid hFL2
    have HP := Lib.hid hP
    have hPl : (autL xss).length ≤ n := by rw [← hn]; exact autL_len xss
    have HRE := Lib.hid hsb
    have HF0 := Lib.hid hf0
    clear hx ha hr hK hF0 ho hf hman hsys hlen hin hat hok hrl hFL hFL2 hFL3 hn hsb hP hR hc0 hbd hix hf0
    go_enter Try.func70, Try.ntmps70

    go_wp2_with fail
    refine (iLeastFlag_any _ _ _ HX.out (HA.out.keep S0.out.below) hN HR.out hcap hc63).mono ?_
    rintro e w1 ⟨rfl, bel⟩
    rw [HKK.out, HFF.out]
    have S1 := Lib.hid (S0.out.go bel)
    have x1 := (S1.out.blk (i := 0) rfl).cell (i := 0) rfl
    clear bel x0
    go_wp2_with fail
    refine (ifaces_any _ HX.out (HA.out.keep S1.out.below) HS.out (cell_be HC0.out S1.out.below) hi0 hcap hc63 (by omega)).mono ?_
    rintro e w2 ⟨A1, c1, rfl, own, bel⟩
    rw [HFL.out] at own ⊢
    rw [HLEN.out] at own ⊢
    obtain ⟨g, rfl⟩ := own_shape own (by omega)
    have S2 := Lib.hid ((S1.out.addOwn bel own (Nat.le_refl _)).addNil 36)
    have x2 := (S2.out.blk (i := 0) rfl).cell (i := 0) rfl
    clear own bel x1
    go_wp2_with fail
    refine (iauts_any _ HO.out HX.out (HA.out.keep S2.out.below)).mono ?_
    rintro e w4 ⟨A3, m, c3, rfl, hm3, own, bel⟩
    rw [HP.out] at own
    obtain ⟨vals, st4⟩ := S2.out.addRows bel own (Nat.le_refl _) (Nat.le_refl _)
    have S4 := Lib.hid st4
    have hm4 : m ≤ n := by omega
    have HML := Lib.hid (show P.length = m from by rw [← HP.out]; exact hm3)
    clear own bel st4 x2 hm3
    go_wp2
    go_loopw [12, 34] (fun u v wr => ∃ (k s c' : Nat) (A' : Option Addr) (js : List Nat), k ≤ m ∧ s ≤ k ∧ v = .int .i64 k ∧ u = .slice A' s c' ∧ St w wr [.blk w.heap.size #[.slice (some ⟨b, o, none⟩) N c] 27, .own 2 (some ⟨g, 0, none⟩) n c1 (ints FL), .own 36 A' s c' (js.map fun j => vals.getD j undef), .rows 2 36 A3 m c3 vals P] ∧ Pick P (fun L => decide (fz FL (fz L (idxL FL y)) = y)) k js) (fun _ v _ => m - (intOf v).toNat)
    case atStart => exact ⟨0, 0, 0, _, [], Nat.zero_le _, Nat.le_refl _, rfl, rfl, S4.out, pick_start⟩
    case round =>
      obtain ⟨k, s, c', A', js, hk, hsk, rfl, rfl, st, hpk⟩ := hrel
      have S := Lib.hid st
      have PK := Lib.hid hpk
      clear st hpk S4
      by_cases hkm : k < m
      · obtain ⟨L, hL⟩ : ∃ L, P[k]? = some L := ⟨_, List.getElem?_eq_getElem (by rw [HML.out]; exact hkm)⟩
        have hLm : L ∈ autL xss := by rw [HP.out]; exact List.mem_of_getElem? hL
        obtain ⟨A6, c6, hv6, hown6⟩ := S.out.rowAt (i := 3) (k := k) rfl hL
        have hLl := HRR.out L hLm
        obtain ⟨r, hr, hrn⟩ := okP_at (HOK.out L hLm) hLl (k := f0) (x := fz L (f0 : Int)) (by have := fz_some (n := n) hLl (x := (f0 : Int)) (by omega) (by omega); simpa using this)
        obtain ⟨v, hv, hvo⟩ := HAT.out r hrn
        have hLf : L[f0]? = some (r : Int) := by have := fz_some (n := n) hLl (x := (f0 : Int)) (by omega) (by omega); rw [hr] at this; simpa using this
        rw [hLl] at hv6 hown6
        obtain ⟨g3, rfl⟩ := own_shape (S.out.rows (i := 3) rfl) (show 0 < m by omega)
        obtain ⟨g6, rfl⟩ := own_shape hown6 (show 0 < n by omega)
        have hc6 := own_cell (S.out.rows (i := 3) rfl) hv6
        have hcr := own_cell hown6 (show (ints L)[f0]? = some (.int .i64 r) by rw [ints, List.getElem?_map, hLf]; rfl)
        have hcv := own_cell (S.out.own (i := 1) rfl) (show (ints FL)[r]? = some (.int .i64 v) by rw [ints, List.getElem?_map, hvo]; rfl)
        have kI : (k : Int) < (m : Int) := by omega
        have rI : (r : Int) < (n : Int) := by omega
        have hpr : decide (fz FL (fz L (idxL FL y)) = y) = decide ((v : Int) = y) := by rw [HF0.out, hr, fz_at hvo]
        have HV6 := Lib.hid hv6
        by_cases hvj : (v : Int) = y
        · have PK2 := Lib.hid (pick_yes PK.out hL (hpr.trans (decide_eq_true hvj)))
          have hlo2 := S.out.lo
          clear hL hLm hv6 hown6 hr hvo hLf hpr hLl
          go_wp2_with (at_builtin; refine wpList_push_at _ rfl _ _ 22 36 rfl Try.underlying22 (.slice none 0 0) 24 Try.infoS rfl w.heap.size _ _ _ rfl (S.out.own (i := 2) rfl) _ rfl rfl (by omega) (by omega) hlo2 ?_)
          intro A8 c8 w8 own8 gr8 hat8
          have S8 := Lib.hid (show St w w8 [.blk w.heap.size #[.slice (some ⟨b, o, none⟩) N c] 27, .own 2 (some ⟨g, 0, none⟩) n c1 (ints FL), .own 36 A8 (s + 1) c8 ((js ++ [k]).map fun j => vals.getD j undef), .rows 2 36 (some ⟨g3, 0, none⟩) m c3 vals P] from by
            have h := S.out.push (i := 2) rfl own8 gr8 hat8
            have e : (js ++ [k]).map (fun j => vals.getD j undef) = (js.map fun j => vals.getD j undef) ++ [.slice (some ⟨g6, 0, none⟩) n c6] := by
              rw [List.map_append]
              simp [List.getD, HV6.out]
            rw [e]
            exact h)
          clear own8 gr8 hat8
          go_wp2
          go_roundw
          case rel => exact ⟨k + 1, s + 1, c8, A8, js ++ [k], by omega, by omega, by go_num, rfl, S8.out, PK2.out⟩
          case measure => simp [intOf]; omega
        · have PK2 := Lib.hid (pick_no PK.out hL (hpr.trans (decide_eq_false hvj)))
          clear hL hLm hv6 hown6 hr hvo hLf hpr hLl
          go_wp2
          go_roundw
          case rel => exact ⟨k + 1, s, c', A', js, by omega, by omega, by go_num, rfl, S.out, PK2.out⟩
          case measure => simp [intOf]; omega
      · obtain rfl : k = m := by omega
        have hpk := PK.out
        have hfl := hpk.2.2
        rw [List.take_of_length_le (by rw [HML.out]; exact Nat.le_refl _)] at hfl
        have hss := S.out.sel (i := 3) (j := 2) rfl rfl hpk.1 (fun j hj => by rw [HML.out]; exact hpk.2.1 j hj)
        rw [← hfl, ← HRE.out] at hss
        have hsl : R.length = s := by
          rw [HRE.out, hfl, List.length_map]
          have := (S.out.own (i := 2) rfl).1
          simpa using this
        have HSS := Lib.hid hss
        have HSL := Lib.hid hsl
        clear hpk hfl hss hsl
        go_wp2
        go_ret2
        exact ⟨A', c', by rw [HSL.out]; rfl, by rw [HSL.out]; exact HSS.out, S.out.below⟩
  · have h1 : sbR xss i y = [] := by unfold sbR; rw [hK, if_neg hK0]
    rw [h1]
    clear hx ha hr hK hF0 h1
    go_enter Try.func70, Try.ntmps70
    go_wp2_with fail
    refine (iLeastFlag_any _ _ _ HX.out (HA.out.keep S0.out.below) hN HR.out hcap hc63).mono ?_
    rintro e w1 ⟨rfl, bel⟩
    rw [HKK.out, HFF.out]
    have S1 := Lib.hid (S0.out.go bel)
    have x1 := (S1.out.blk (i := 0) rfl).cell (i := 0) rfl
    clear bel x0
    clear x1
    go_wp2
    go_ret2
    exact ⟨none, 0, rfl, ownSS_nil _ _ _ _, S1.out.below⟩

end Go.Proofs.Ytmgoaabeopnopaa
