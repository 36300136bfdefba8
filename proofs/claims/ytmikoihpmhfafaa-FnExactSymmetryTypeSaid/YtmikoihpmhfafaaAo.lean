/- The spec's SymmetryType and IsChiral. -/
import Derived.Test.YtmikoihpmhfafaaAn
namespace Go.Proofs.Ytmikoihpmhfafaa
open Go.RowKit

set_option maxHeartbeats 6400000 in
set_option maxRecDepth 100000 in
theorem sSymmetryType_any {A : Option Addr} {c N : Nat} {xss : List (List Int)} (w : World) (hx : xss.length = N) (ha : RdSS w A xss) (hN : N ≤ 1048576) (hr : ∀ xs ∈ xss, (xs.length : Int) ≤ 1048576) :
    Calls Try.prog 67 #[.agg #[.slice A N c]] w (fun e w' => ∃ A' c', e = .returned (.tuple #[.slice A' (stR6 xss).length c', .int .i64 (auC xss)]) ∧ OwnSS w' w.heap.size w'.heap.size 31 A' (stR6 xss).length c' (stR6 xss) ∧ Below w.heap.size w w') := by
  have HX := Lib.hid hx
  have HA := Lib.hid ha
  have HR := Lib.hid hr
  have st0 := (St.start w).addBlk #[.slice A N c] 26
  have S0 := Lib.hid st0
  have x0 := (st0.blk (i := 0) rfl).cell (i := 0) rfl
  clear st0
  cases ho : okMan xss
  · have h1 : stR6 xss = [] := by simp [stR6, ho]
    have h2 : auC xss = 1 := by simp [auC, ho]
    rw [h1, h2]
    have HO := Lib.hid ho
    clear hx ha hr ho h1 h2
    go_enter Try.func67, Try.ntmps67
    go_wp2_with fail
    refine (sIs_any _ HX.out (HA.out.keep S0.out.below) hN HR.out).mono ?_
    rintro e w1 ⟨rfl, bel⟩
    rw [HO.out]
    have S1 := Lib.hid (S0.out.go bel)
    have x1 := (S1.out.blk (i := 0) rfl).cell (i := 0) rfl
    clear bel x0
    clear x1
    go_wp2
    go_ret2
    exact ⟨none, 0, rfl, ownSS_nil _ _ _ _, S1.out.below⟩
  · have h1 : stR6 xss = stL xss := by simp [stR6, ho]
    have h2 : auC xss = 0 := by simp [auC, ho]
    rw [h1, h2]
    have hman := okMan_iff.1 ho
    have hsys := hman.sys
    have hn4 := hman.f4
    have hn2 := hman.f2
    have hN5 := hman.r5
    rw [hx] at hN5
    have hcl := ocn_le hman
    have hcp := ocn_pos hman
    have hlen := @oL_len xss
    have hat := fun (f : Nat) (hf : f < flN xss) => oL_at hman hf
    have hgr := oL_grt hman
    have hin := oL_in hman
    obtain ⟨q, hq⟩ : ∃ q, ocn xss = q := ⟨_, rfl⟩
    obtain ⟨n, hn⟩ : ∃ n, flN xss = n := ⟨_, rfl⟩
    obtain ⟨OL, hOL⟩ : ∃ OL, oL xss = OL := ⟨_, rfl⟩
    have hOL2 : labL (autL xss) (flN xss) = OL := hOL
    have honto := fun (j : Nat) (hj : j < ocn xss) => oL_onto hman hj
    rw [hq] at hcl hcp hat hgr hin honto
    rw [hn] at hsys hn2 hn4 hcl hlen hat honto hOL2
    rw [hOL] at hlen hat hgr hin honto
    have HS := Lib.hid hsys
    have HLEN := Lib.hid hlen
    have HAT := Lib.hid hat
    have HGR := Lib.hid hgr
    have HIN := Lib.hid hin
    have HON := Lib.hid honto
    have HN := Lib.hid hn
    have HOL := Lib.hid hOL2
    have hsl : (stL xss).length = N := by rw [stL_len, hx]
    have hrow := fun (g : List Int) (k : Nat) (hg : xss[k]? = some g) => show (stL xss)[k]? = some (stRow xss g) from by rw [stL, List.getElem?_map, hg]; rfl
    have hrl := fun (g : List Int) => @stRow_len xss g
    have hra := fun (g : List Int) (o a r v : Nat) (ho : o < q) (hi : idxL OL (o : Int) = (a : Int)) (hg : fz g a = (r : Int)) (hv : OL[r]? = some (v : Int)) => show (stRow xss g)[o]? = some (v : Int) from by
      rw [stRow, hq, List.getElem?_map, List.getElem?_range ho, hOL]
      simp only [Option.map_some]
      rw [hi, hg, fz_at hv]
    rw [hq] at hrl
    obtain ⟨SL, hSL⟩ : ∃ SL, stL xss = SL := ⟨_, rfl⟩
    rw [hSL] at hsl hrow ⊢
    have HSN := Lib.hid hsl
    have HROW := Lib.hid hrow
    have HRL := Lib.hid hrl
    have HRA := Lib.hid hra
    clear hman hsys hlen hat hgr hin honto hq hn hOL hOL2 hsl hrow hrl hra hSL
    have HO := Lib.hid ho
    clear hx ha hr ho h1 h2
    go_enter Try.func67, Try.ntmps67
    go_wp2_with fail
    refine (sIs_any _ HX.out (HA.out.keep S0.out.below) hN HR.out).mono ?_
    rintro e w1 ⟨rfl, bel⟩
    rw [HO.out]
    have S1 := Lib.hid (S0.out.go bel)
    have x1 := (S1.out.blk (i := 0) rfl).cell (i := 0) rfl
    clear bel x0
    go_wp2_with fail
    refine (sorbits_any _ HO.out HX.out (HA.out.keep S1.out.below)).mono ?_
    rintro e w2 ⟨A2, c2, rfl, own, bel⟩
    rw [HN.out, HOL.out] at own
    rw [HN.out]
    obtain ⟨g, rfl⟩ := own_shape own (show 0 < n by omega)
    have S2 := Lib.hid ((S1.out.addOwn bel own (Nat.le_refl _)).addMadeRows 2 31)
    clear own bel x1
    go_wp2
    go_loopw [5, 6] (fun u v wr => ∃ (k c' : Nat) (A' : Option Addr) (vals : List Value), k ≤ N ∧ v = .int .i64 k ∧ u = .slice A' k c' ∧ St w wr [.blk w.heap.size #[.slice A N c] 26, .own 2 (some ⟨g, 0, none⟩) n c2 (ints OL), .rows 2 31 A' k c' vals (SL.take k)]) (fun _ v _ => N - (intOf v).toNat)
    case atStart => exact ⟨0, 0, _, [], Nat.zero_le _, rfl, rfl, by simpa using S2.out⟩
    case round =>
      obtain ⟨k, c', A', vals, hk, rfl, rfl, st⟩ := hrel
      have S := Lib.hid st
      have xk := (st.blk (i := 0) rfl).cell (i := 0) rfl
      clear S2 st
      by_cases hkN : k < N
      · obtain ⟨b2, o2, A4, c4, gg, rfl, hgg, hcw0, hrd, hms⟩ := HA.out.row (k := k) (by rw [HX.out]; exact hkN)
        have hlg := sys_len HS.out hgg
        obtain ⟨l, hl⟩ : ∃ l, gg.length = l := ⟨_, rfl⟩
        rw [hl] at hcw0 hms hlg
        have HGG := Lib.hid hgg
        have HRD := Lib.hid hrd
        have HCW := Lib.hid hcw0
        have HLG := Lib.hid hl
        have kI : (k : Int) < (N : Int) := by omega
        have S3 := Lib.hid (S.out.addMade 2)
        clear hgg hrd hcw0 hl
        go_wp2
        go_loopw [7, 8] (fun u v wi => ∃ (i c6 : Nat) (A6 : Option Addr), i ≤ q ∧ v = .int .i64 i ∧ u = .slice A6 i c6 ∧ St w wi [.blk w.heap.size #[.slice (some ⟨b2, o2, none⟩) N c] 26, .own 2 (some ⟨g, 0, none⟩) n c2 (ints OL), .rows 2 31 A' k c' vals (SL.take k), .own 2 A6 i c6 (ints ((stRow xss gg).take i))]) (fun _ v _ => q - (intOf v).toNat)
        case atStart => exact ⟨0, 0, _, Nat.zero_le _, rfl, rfl, by simpa [ints] using S3.out⟩
        case round =>
          obtain ⟨i, c6, A6, hi, rfl, rfl, st2⟩ := hrel
          have Si := Lib.hid st2
          have xi := (st2.blk (i := 0) rfl).cell (i := 0) rfl
          clear st2 S3 S xk
          go_wp2_with fail
          refine (grt_any _ HLEN.out (own_rd (Si.out.own (i := 1) rfl)) (by omega) (fun x hx => ⟨(HIN.out x hx).1, by have := (HIN.out x hx).2; omega⟩)).mono ?_
          rintro e w5 ⟨rfl, rfl⟩
          rw [HGR.out]
          by_cases hiq : i < q
          · obtain ⟨f, hf, hfo⟩ := HON.out i hiq
            have hx1 := fz_idx (List.mem_of_getElem? hfo)
            obtain ⟨a, ha⟩ := Int.eq_ofNat_of_zero_le hx1.1
            rw [HLEN.out] at hx1
            have han : a < n := by omega
            have hrd2 := HRD.out.keep Si.out.below
            obtain ⟨b4, o4, y, rfl, hgy, hcy⟩ := hrd2.int (k := a) (by rw [HLG.out]; omega)
            obtain ⟨r, rfl, hr0⟩ := sys_at HS.out HGG.out hgy
            have hrn : r < n := by omega
            obtain ⟨v, hv, hvo⟩ := HAT.out r hrn
            have hcr := own_cell (Si.out.own (i := 1) rfl) (show (ints OL)[r]? = some (.int .i64 v) by rw [ints, List.getElem?_map, hvo]; rfl)
            have hcw := cell_be HCW.out Si.out.below
            have HRO := Lib.hid (HRA.out gg i a r v hiq ha (fz_at hgy) hvo)
            have HIA := Lib.hid ha
            have Sd := Lib.hid (Si.out.go (below_drewN (Below.refl _ _) 1))
            have hlo2 := Sd.out.lo
            have aI : (a : Int) < (l : Int) := by omega
            have rI : (r : Int) < (n : Int) := by omega
            clear hfo hx1 ha hgy hvo hrd2
            go_wp2
            go_region_law ((first
              | (go_simp; go_at_call 149
                 refine (index_any _ _ HLEN.out (own_rd (Sd.out.own (i := 1) rfl)) (by omega)).mono ?_
                 rintro e wz ⟨rfl, rfl⟩
                 rw [HIA.out])
              | (refine step_push_h rfl (.tmp 29) (.tmp 43) 31 2 (by rfl) Try.underlying31 (.int .i64 0) 8 Try.info2 rfl wr.heap.size (by rfl) w.heap.size (.slice A6 i c6) i _ (by rfl) (Sd.out.own (i := 3) rfl) _ (by rfl) (by rfl) (by omega) (by omega) hlo2 ?_; intro A7 c7 w7 own7 gr7 hat7)))
            all_goals
              have own8 : w7.ownsRow w.heap.size 2 1 (.slice A7 (i + 1) c7) (i + 1) (ints ((stRow xss gg).take (i + 1))) := by
                rw [List.take_add_one, HRO.out]
                simpa [ints] using own7
              have S7 := Lib.hid (Sd.out.push (i := 3) rfl own8 gr7 hat7)
              clear own7 own8 gr7 hat7
              go_wp2
              go_roundw
              case rel => exact ⟨i + 1, c7, A7, by omega, by go_num, rfl, S7.out⟩
              case measure => simp [intOf]; omega
          · obtain rfl : i = q := by omega
            have h := Si.out
            rw [List.take_of_length_le (l := stRow xss gg) (by rw [HRL.out]; exact Nat.le_refl _)] at h
            have S5 := Lib.hid h
            have hlo2 := h.lo
            clear h Si
            go_wp2_with (at_builtin; refine wpList_push_at _ rfl _ _ 24 31 rfl Try.underlying24 (.slice none 0 0) 24 Try.infoS rfl w.heap.size _ _ _ rfl (S5.out.rows (i := 2) rfl) _ rfl rfl (by omega) (by omega) hlo2 ?_)
            intro A8 c8 w8 own8 gr8 hat8
            have st8 := (S5.out.rowPush (i := 2) (j := 3) rfl rfl (HRL.out gg) (by decide) (by decide) own8 gr8 hat8).take 3
            have S8 := Lib.hid st8
            clear own8 gr8 hat8 st8
            go_wp2
            go_roundw
            case rel => exact ⟨k + 1, c8, A8, _, by omega, by go_num, rfl, by rw [List.take_add_one, HROW.out gg k HGG.out]; exact S8.out⟩
            case measure => simp [intOf]; omega
      · obtain rfl : k = N := by omega
        have h := S.out
        rw [List.take_of_length_le (by rw [HSN.out]; exact Nat.le_refl _)] at h
        have S7 := Lib.hid h
        clear h S
        go_wp2
        go_ret2
        exact ⟨A', c', by rw [HSN.out]; rfl, by rw [HSN.out]; exact S7.out.sep.ownSS (i := 2) rfl, S7.out.below⟩

set_option maxHeartbeats 6400000 in
set_option maxRecDepth 100000 in
theorem sIsChiral_any {A : Option Addr} {c N : Nat} {xss : List (List Int)} (w : World) (hx : xss.length = N) (ha : RdSS w A xss) (hN : N ≤ 1048576) (hr : ∀ xs ∈ xss, (xs.length : Int) ≤ 1048576) :
    Calls Try.prog 89 #[.agg #[.slice A N c]] w (fun e w' => e = .returned (.tuple #[.bool (chB xss), .int .i64 (auC xss)]) ∧ Below w.heap.size w w') := by
  have HX := Lib.hid hx
  have HA := Lib.hid ha
  have HR := Lib.hid hr
  have st0 := (St.start w).addBlk #[.slice A N c] 26
  have S0 := Lib.hid st0
  have x0 := (st0.blk (i := 0) rfl).cell (i := 0) rfl
  clear st0
  cases ho : okMan xss
  · have h1 : chB xss = false := by simp [chB, ho]
    have h2 : auC xss = 1 := by simp [auC, ho]
    rw [h1, h2]
    have HO := Lib.hid ho
    clear hx ha hr ho h1 h2
    go_enter Try.func89, Try.ntmps89
    go_wp2_with fail
    refine (sIs_any _ HX.out (HA.out.keep S0.out.below) hN HR.out).mono ?_
    rintro e w1 ⟨rfl, bel⟩
    rw [HO.out]
    have S1 := Lib.hid (S0.out.go bel)
    have x1 := (S1.out.blk (i := 0) rfl).cell (i := 0) rfl
    clear bel x0
    clear x1
    go_wp2
    go_ret2
    exact ⟨rfl, S1.out.below⟩
  · have h2 : auC xss = 0 := by simp [auC, ho]
    rw [h2]
    have h1 := h2
    have hman := okMan_iff.1 ho
    have hsys := hman.sys
    have hn4 := hman.f4
    have hn2 := hman.f2
    have hN5 := hman.r5
    rw [hx] at hN5
    have hcl := ocn_le hman
    have hcp := ocn_pos hman
    have hlen := @oL_len xss
    have hat := fun (f : Nat) (hf : f < flN xss) => oL_at hman hf
    have hgr := oL_grt hman
    have hin := oL_in hman
    obtain ⟨q, hq⟩ : ∃ q, ocn xss = q := ⟨_, rfl⟩
    obtain ⟨n, hn⟩ : ∃ n, flN xss = n := ⟨_, rfl⟩
    obtain ⟨OL, hOL⟩ : ∃ OL, oL xss = OL := ⟨_, rfl⟩
    have hOL2 : labL (autL xss) (flN xss) = OL := hOL
    have honto := fun (j : Nat) (hj : j < ocn xss) => oL_onto hman hj
    rw [hq] at hcl hcp hat hgr hin honto
    rw [hn] at hsys hn2 hn4 hcl hlen hat honto hOL2
    rw [hOL] at hlen hat hgr hin honto
    have HS := Lib.hid hsys
    have HLEN := Lib.hid hlen
    have HAT := Lib.hid hat
    have HGR := Lib.hid hgr
    have HIN := Lib.hid hin
    have HON := Lib.hid honto
    have HN := Lib.hid hn
    have HOL := Lib.hid hOL2
    obtain ⟨V, hV⟩ : ∃ V, chB xss = V := ⟨_, rfl⟩
    have hci := chi_iff hman
    rw [hq, hn, hOL] at hci
    have hV1 : q = 2 → (∀ f, f < n → ∀ g ∈ xss, fz OL (fz g f) ≠ fz OL f) → V = true := fun h2 h => by
      rw [← hV, chB, ho, Bool.true_and]
      exact @decide_eq_true _ (Classical.propDecidable _) (hci.2 ⟨h2, fun g hg f hf => h f hf g hg⟩)
    have hV0 : q ≠ 2 → V = false := fun h2 => by
      rw [← hV, chB, ho, Bool.true_and]
      exact @decide_eq_false _ (Classical.propDecidable _) fun h => h2 (hci.1 h).1
    have hV2 : ∀ (g : List Int) (f : Nat), g ∈ xss → f < n → fz OL (fz g f) = fz OL f → V = false := fun g f hg hf he => by
      rw [← hV, chB, ho, Bool.true_and]
      exact @decide_eq_false _ (Classical.propDecidable _) fun h => (hci.1 h).2 g hg f hf he
    rw [hV]
    have HV1 := Lib.hid hV1
    have HV0 := Lib.hid hV0
    have HV2 := Lib.hid hV2
    clear hman hsys hlen hat hgr hin honto hq hn hOL hOL2 hci hV hV1 hV0 hV2
    have HO := Lib.hid ho
    clear hx ha hr ho h1 h2
    go_enter Try.func89, Try.ntmps89
    go_wp2_with fail
    refine (sIs_any _ HX.out (HA.out.keep S0.out.below) hN HR.out).mono ?_
    rintro e w1 ⟨rfl, bel⟩
    rw [HO.out]
    have S1 := Lib.hid (S0.out.go bel)
    have x1 := (S1.out.blk (i := 0) rfl).cell (i := 0) rfl
    clear bel x0
    go_wp2_with fail
    refine (sorbits_any _ HO.out HX.out (HA.out.keep S1.out.below)).mono ?_
    rintro e w2 ⟨A2, c2, rfl, own, bel⟩
    rw [HN.out, HOL.out] at own
    rw [HN.out]
    obtain ⟨g, rfl⟩ := own_shape own (show 0 < n by omega)
    have S2 := Lib.hid (S1.out.addOwn bel own (Nat.le_refl _))
    have x2 := (S2.out.blk (i := 0) rfl).cell (i := 0) rfl
    clear own bel x1
    go_wp2_with fail
    refine (grt_any _ HLEN.out (own_rd (S2.out.own (i := 1) rfl)) (by omega) (fun x hx => ⟨(HIN.out x hx).1, by have := (HIN.out x hx).2; omega⟩)).mono ?_
    rintro e w5 ⟨rfl, rfl⟩
    rw [HGR.out]
    by_cases hq2 : q = 2
    · subst hq2
      clear x2
      go_wp2
      go_loopw [5] (fun v wr => ∃ f : Nat, f ≤ n ∧ v = .int .i64 f ∧ St w wr [.blk w.heap.size #[.slice A N c] 26, .own 2 (some ⟨g, 0, none⟩) n c2 (ints OL)] ∧ ∀ f', f' < f → ∀ gg ∈ xss, fz OL (fz gg ((f' : Nat) : Int)) ≠ fz OL (f' : Int)) (fun v _ => n - (intOf v).toNat)
      case atStart => exact ⟨0, Nat.zero_le _, rfl, S2.out, fun f' h => by omega⟩
      case round =>
        obtain ⟨f, hf, rfl, st, hall⟩ := hrel
        have S := Lib.hid st
        have ALL := Lib.hid hall
        clear st hall S2
        by_cases hfn : f < n
        · obtain ⟨j, hj, hjo⟩ := HAT.out f hfn
          have HJO := Lib.hid hjo
          clear hjo
          go_wp2
          go_loopw [6] (fun v wi => ∃ k : Nat, k ≤ N ∧ v = .int .i64 k ∧ St w wi [.blk w.heap.size #[.slice A N c] 26, .own 2 (some ⟨g, 0, none⟩) n c2 (ints OL)] ∧ ∀ i gg, i < k → xss[i]? = some gg → fz OL (fz gg ((f : Nat) : Int)) ≠ fz OL (f : Int)) (fun v _ => N - (intOf v).toNat)
          case atStart => exact ⟨0, Nat.zero_le _, rfl, S.out, fun i gg h => by omega⟩
          case round =>
            obtain ⟨k, hk, rfl, st2, hal2⟩ := hrel
            have S3 := Lib.hid st2
            have AL2 := Lib.hid hal2
            have x3 := (st2.blk (i := 0) rfl).cell (i := 0) rfl
            clear st2 hal2
            by_cases hkN : k < N
            · obtain ⟨b2, o2, A4, c4, gg, rfl, hgg, hcw, hrd, hms⟩ := (HA.out.keep S3.out.below).row (k := k) (by rw [HX.out]; exact hkN)
              have hlg := sys_len HS.out hgg
              obtain ⟨l, hl⟩ : ∃ l, gg.length = l := ⟨_, rfl⟩
              rw [hl] at hcw hms hlg
              obtain ⟨b4, o4, y, rfl, hgy, hcy⟩ := hrd.int (k := f) (by omega)
              obtain ⟨r, rfl, hr0⟩ := sys_at HS.out hgg hgy
              have hrn : r < n := by omega
              obtain ⟨v, hv, hvo⟩ := HAT.out r hrn
              have hcr := own_cell (S3.out.own (i := 1) rfl) (show (ints OL)[r]? = some (.int .i64 v) by rw [ints, List.getElem?_map, hvo]; rfl)
              have hcf := own_cell (S3.out.own (i := 1) rfl) (show (ints OL)[f]? = some (.int .i64 j) by rw [ints, List.getElem?_map, HJO.out]; rfl)
              have HGM := Lib.hid (List.mem_of_getElem? hgg)
              have HGG := Lib.hid hgg
              have HEQ := Lib.hid (show fz OL (fz gg (f : Int)) = (v : Int) from by rw [show fz gg (f : Int) = (r : Int) from fz_at hgy, fz_at hvo])
              have HJF := Lib.hid (show fz OL (f : Int) = (j : Int) from fz_at HJO.out)
              have fI : (f : Int) < (l : Int) := by omega
              have rI : (r : Int) < (n : Int) := by omega
              clear hgg hrd hgy hvo
              by_cases hvj : v = j
              · subst hvj
                have hVf := HV2.out gg f HGM.out hfn (HEQ.out.trans HJF.out.symm)
                subst hVf
                go_wp2
                go_quiet (fail)
                have S4 := Lib.hid (S3.out.go (below_drewN (Below.refl _ _) nq))
                go_wp2
                go_ret2
                exact ⟨rfl, S4.out.below⟩
              · have hvI : ¬ (v : Int) = (j : Int) := by omega
                have AL3 := Lib.hid (show ∀ i g', i < k + 1 → xss[i]? = some g' → fz OL (fz g' ((f : Nat) : Int)) ≠ fz OL (f : Int) from fun i g' hi hg' => by
                  rcases Nat.lt_succ_iff_lt_or_eq.1 hi with h1 | rfl
                  · exact AL2.out i g' h1 hg'
                  · rw [HGG.out] at hg'; injection hg' with hg'; subst hg'
                    rw [HEQ.out, HJF.out]; exact hvI)
                go_wp2
                go_quiet (fail)
                have S4 := Lib.hid (S3.out.go (below_drewN (Below.refl _ _) nq))
                go_wp2
                go_roundw
                case rel => exact ⟨k + 1, by omega, by go_num, S4.out, AL3.out⟩
                case measure => simp [intOf]; omega
            · obtain rfl : k = N := by omega
              have ALL2 := Lib.hid (show ∀ f', f' < f + 1 → ∀ gg ∈ xss, fz OL (fz gg ((f' : Nat) : Int)) ≠ fz OL (f' : Int) from fun f' h gg hg => by
                rcases Nat.lt_succ_iff_lt_or_eq.1 h with h1 | rfl
                · exact ALL.out f' h1 gg hg
                · obtain ⟨i, hi, he⟩ := List.mem_iff_getElem.1 hg
                  exact AL2.out i gg (by rw [← HX.out]; exact hi) (by rw [List.getElem?_eq_getElem hi, he]))
              go_wp2
              go_roundw
              case rel => exact ⟨f + 1, by omega, by go_num, S3.out, ALL2.out⟩
              case measure => simp [intOf]; omega
        · obtain rfl : f = n := by omega
          have hVt := HV1.out (by first | rfl | trivial) ALL.out
          subst hVt
          go_wp2
          go_ret2
          exact ⟨rfl, S.out.below⟩
    · have hVf := HV0.out hq2
      subst hVf
      have hqI : ¬ (q : Int) = 2 := by omega
      go_wp2
      go_ret2
      exact ⟨rfl, S2.out.below⟩

end Go.Proofs.Ytmikoihpmhfafaa
