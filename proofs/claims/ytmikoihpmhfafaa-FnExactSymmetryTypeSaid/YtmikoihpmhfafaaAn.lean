/- SymmetryType and IsChiral: impl's and the spec's. -/
import Derived.Test.YtmikoihpmhfafaaAm
import Derived.Test.YtmikoihpmhfafaaAi
import Derived.Test.YtmikoihpmhfafaaEqs
namespace Go.Proofs.Ytmikoihpmhfafaa
open Go.RowKit

theorem eqs_ne {A B : Option Addr} {c d n m : Nat} (w : World) (hne : n ≠ m) :
    Calls Try.prog 181 #[.slice A n c, .slice B m d] w fun e w' => e = .returned (.bool false) ∧ Below w.heap.size w w' := by
  have hI : ¬ (n : Int) = (m : Int) := by omega
  go_enter Try.func181, Try.ntmps181
  go_wp2
  go_ret
  exact ⟨rfl, Below.refl _ _⟩
theorem eqs_two {A B : Option Addr} {c d n m : Nat} {xs ys : List Int} {r : Bool} (w : World) (hx : xs.length = n) (hy : ys.length = m) (ha : Rd w A (ints xs)) (hb : Rd w B (ints ys)) (hn : n ≤ 1048576) (hr : decide (xs = ys) = r) :
    Calls Try.prog 181 #[.slice A n c, .slice B m d] w fun e w' => e = .returned (.bool r) ∧ Below w.heap.size w w' := by
  by_cases h : n = m
  · subst h
    exact eqs_any w hx hy ha hb hn hr
  · have : r = false := by rw [← hr]; exact decide_eq_false fun e => h (by rw [← hx, ← hy, e])
    subst this
    exact eqs_ne w h
set_option maxHeartbeats 6400000 in
set_option maxRecDepth 100000 in
theorem ichir_any {A : Option Addr} {c N : Nat} {xss : List (List Int)} (w : World) (hm : okMan xss = true) (hx : xss.length = N) (ha : RdSS w A xss) :
    Calls Try.prog 125 #[.agg #[.slice A N c]] w fun e w' => e = .returned (.bool (chB xss)) ∧ Below w.heap.size w w' := by
  have hman := okMan_iff.1 hm
  have hN5 := hman.r5
  have hle := (stR6_le xss).2
  obtain ⟨V, hV⟩ : ∃ V, chB xss = V := ⟨_, rfl⟩
  have hV1 : (∀ r ∈ stL xss, r = [1, 0]) → V = true := fun h => by rw [← hV, chB, hm, Bool.true_and]; exact @decide_eq_true _ (Classical.propDecidable _) h
  have hV0 : ¬ (∀ r ∈ stL xss, r = [1, 0]) → V = false := fun h => by rw [← hV, chB, hm, Bool.true_and]; exact @decide_eq_false _ (Classical.propDecidable _) h
  rw [hV]
  have hst : stR6 xss = stL xss := by simp [stR6, hm]
  rw [hst] at hle
  have hsl : (stL xss).length = N := by rw [stL_len, hx]
  obtain ⟨SL, hSL⟩ : ∃ SL, stL xss = SL := ⟨_, rfl⟩
  rw [hSL] at hsl hle hV1 hV0
  rw [hx] at hN5
  have HM := Lib.hid hm
  have HX := Lib.hid hx
  have HA := Lib.hid ha
  have HSL := Lib.hid hSL
  have HSN := Lib.hid hsl
  have HLE := Lib.hid hle
  have HV1 := Lib.hid hV1
  have HV0 := Lib.hid hV0
  have st0 := (St.start w).addBlk #[.slice A N c] 26
  have S0 := Lib.hid st0
  have x0 := (st0.blk (i := 0) rfl).cell (i := 0) rfl
  clear st0 hx ha hm hman hle hV hV1 hV0 hst hsl hSL
  go_enter Try.func125, Try.ntmps125
  go_wp2_with fail
  refine (isym_any _ HM.out HX.out (HA.out.keep S0.out.below)).mono ?_
  rintro e w1 ⟨A1, m, c1, rfl, hm1, own, bel⟩
  rw [HSL.out] at hm1 own
  obtain rfl : m = N := by rw [← hm1]; exact HSN.out
  obtain ⟨vals, st1⟩ := S0.out.addRows bel own (Nat.le_refl _) (Nat.le_refl _)
  have S1 := Lib.hid st1
  clear hm1 own bel st1 x0
  go_wp2
  go_loopw [8] (fun v wr => ∃ k : Nat, k ≤ m ∧ v = .int .i64 k ∧ St w wr [.rows 2 31 A1 m c1 vals SL] ∧ ∀ j r, j < k → SL[j]? = some r → r = [1, 0]) (fun v _ => m - (intOf v).toNat)
  case atStart => exact ⟨0, Nat.zero_le _, rfl, S1.out.drop 0, fun j r hj => by omega⟩
  case round =>
    obtain ⟨k, hk, rfl, st, hall⟩ := hrel
    have S := Lib.hid st
    have ALL := Lib.hid hall
    clear st hall S1
    by_cases hkN : k < m
    · obtain ⟨row, hrow⟩ : ∃ row, SL[k]? = some row := ⟨_, List.getElem?_eq_getElem (by rw [HSN.out]; exact hkN)⟩
      obtain ⟨A3, c3, hv, hown⟩ := S.out.rowAt (i := 0) (k := k) rfl hrow
      obtain ⟨g1, rfl⟩ := own_shape (S.out.rows (i := 0) rfl) (show 0 < m by omega)
      have hcx := own_cell (S.out.rows (i := 0) rfl) hv
      have hrl := HLE.out row (List.mem_of_getElem? hrow)
      obtain ⟨q, hq⟩ : ∃ q, row.length = q := ⟨_, rfl⟩
      rw [hq] at hcx hown hrl
      have S2 := Lib.hid (S.out.addLit2 (.int .i64 1) (.int .i64 0) 2)
      have HOWN := Lib.hid (own_rd (hown.alloc (.cells #[.int .i64 1, .int .i64 0] 2)))
      have HLIT := Lib.hid (own_rd (S2.out.own (i := 1) rfl))
      have HROW := Lib.hid hrow
      have HQ := Lib.hid hq
      obtain ⟨V2, hV2⟩ : ∃ V2, decide (row = [1, 0]) = V2 := ⟨_, rfl⟩
      have HV2 := Lib.hid hV2
      clear hrow hv hown hq hV2
      go_wp2_with fail
      refine (eqs_two (xs := row) (ys := [1, 0]) _ HQ.out rfl HOWN.out HLIT.out (by omega) HV2.out).mono ?_
      rintro e w5 ⟨rfl, bel⟩
      have S5 := Lib.hid ((S2.out.go bel).drop 1)
      clear bel hcx
      have hV2 := HV2.out
      cases V2
      · have hVf := HV0.out (fun h => by have := h row (List.mem_of_getElem? HROW.out); simp [this] at hV2)
        subst hVf
        clear hV2
        go_wp2
        go_ret
        exact ⟨rfl, S5.out.below⟩
      · have hrow1 : row = [1, 0] := of_decide_eq_true hV2
        have ALL2 := Lib.hid (show ∀ j r, j < k + 1 → SL[j]? = some r → r = [1, 0] from fun j r hj hr => by
          rcases Nat.lt_succ_iff_lt_or_eq.1 hj with h1 | rfl
          · exact ALL.out j r h1 hr
          · rw [HROW.out] at hr; injection hr with hr; rw [← hr]; exact hrow1)
        clear hV2 hrow1
        go_wp2
        go_roundw
        case rel => exact ⟨k + 1, by omega, by go_num, S5.out, ALL2.out⟩
        case measure => simp [intOf]; omega
    · obtain rfl : k = m := by omega
      have hVt := HV1.out (fun r hr => by
        obtain ⟨j, hj, he⟩ := List.mem_iff_getElem.1 hr
        exact ALL.out j r (by rw [← HSN.out]; exact hj) (by rw [List.getElem?_eq_getElem hj, he]))
      subst hVt
      go_wp2
      go_ret
      exact ⟨rfl, S.out.below⟩

set_option maxHeartbeats 6400000 in
set_option maxRecDepth 100000 in
theorem iSymmetryType_any {A : Option Addr} {c N : Nat} {xss : List (List Int)} (w : World) (hx : xss.length = N) (ha : RdSS w A xss) (hN : N ≤ 1048576) (hr : ∀ xs ∈ xss, (xs.length : Int) ≤ 1048576) :
    Calls Try.prog 66 #[.agg #[.slice A N c]] w (fun e w' => ∃ A' c', e = .returned (.tuple #[.slice A' (stR6 xss).length c', .int .i64 (auC xss)]) ∧ OwnSS w' w.heap.size w'.heap.size 31 A' (stR6 xss).length c' (stR6 xss) ∧ Below w.heap.size w w') := by
  have HX := Lib.hid hx
  have HA := Lib.hid ha
  have HR := Lib.hid hr
  have st0 := (St.start w).addBlk #[.slice A N c] 26
  have S0 := Lib.hid st0
  have x0 := (st0.blk (i := 0) rfl).cell (i := 0) rfl
  clear st0
  cases ho : okMan xss
  · have h1 : stR6 xss = [] := by simp [stR6, ho]
    have h2 : auC xss = 1 := by simp [auC, ho]
    rw [h1, h2]
    have HO := Lib.hid ho
    clear hx ha hr ho h1 h2
    go_enter Try.func66, Try.ntmps66
    go_wp2_with fail
    refine (iMan_any _ HX.out (HA.out.keep S0.out.below) hN HR.out).mono ?_
    rintro e w1 ⟨rfl, bel⟩
    rw [HO.out]
    have S1 := Lib.hid (S0.out.go bel)
    have x1 := (S1.out.blk (i := 0) rfl).cell (i := 0) rfl
    clear bel x0
    clear x1
    go_wp2
    go_ret2
    exact ⟨none, 0, rfl, ownSS_nil _ _ _ _, S1.out.below⟩
  · have h1 : stR6 xss = stL xss := by simp [stR6, ho]
    have h2 : auC xss = 0 := by simp [auC, ho]
    rw [h1, h2]
    have HO := Lib.hid ho
    clear hx ha hr ho h1 h2
    go_enter Try.func66, Try.ntmps66
    go_wp2_with fail
    refine (iMan_any _ HX.out (HA.out.keep S0.out.below) hN HR.out).mono ?_
    rintro e w1 ⟨rfl, bel⟩
    rw [HO.out]
    have S1 := Lib.hid (S0.out.go bel)
    have x1 := (S1.out.blk (i := 0) rfl).cell (i := 0) rfl
    clear bel x0
    go_wp2_with fail
    refine (isym_any _ HO.out HX.out (HA.out.keep S1.out.below)).mono ?_
    rintro e w2 ⟨A2, m, c2, rfl, hm, own, bel⟩
    subst hm
    have S2 := Lib.hid (S1.out.go bel)
    have OWN := Lib.hid (ownSS_wide own S1.out.lo (Nat.le_refl _))
    clear own bel x1
    go_wp2
    go_ret2
    exact ⟨A2, c2, rfl, OWN.out, S2.out.below⟩

set_option maxHeartbeats 6400000 in
set_option maxRecDepth 100000 in
theorem iIsChiral_any {A : Option Addr} {c N : Nat} {xss : List (List Int)} (w : World) (hx : xss.length = N) (ha : RdSS w A xss) (hN : N ≤ 1048576) (hr : ∀ xs ∈ xss, (xs.length : Int) ≤ 1048576) :
    Calls Try.prog 49 #[.agg #[.slice A N c]] w (fun e w' => e = .returned (.tuple #[.bool (chB xss), .int .i64 (auC xss)]) ∧ Below w.heap.size w w') := by
  have HX := Lib.hid hx
  have HA := Lib.hid ha
  have HR := Lib.hid hr
  have st0 := (St.start w).addBlk #[.slice A N c] 26
  have S0 := Lib.hid st0
  have x0 := (st0.blk (i := 0) rfl).cell (i := 0) rfl
  clear st0
  cases ho : okMan xss
  · have h1 : chB xss = false := by simp [chB, ho]
    have h2 : auC xss = 1 := by simp [auC, ho]
    rw [h1, h2]
    have HO := Lib.hid ho
    clear hx ha hr ho h1 h2
    go_enter Try.func49, Try.ntmps49
    go_wp2_with fail
    refine (iMan_any _ HX.out (HA.out.keep S0.out.below) hN HR.out).mono ?_
    rintro e w1 ⟨rfl, bel⟩
    rw [HO.out]
    have S1 := Lib.hid (S0.out.go bel)
    have x1 := (S1.out.blk (i := 0) rfl).cell (i := 0) rfl
    clear bel x0
    clear x1
    go_wp2
    go_ret2
    exact ⟨rfl, S1.out.below⟩
  · have h2 : auC xss = 0 := by simp [auC, ho]
    rw [h2]
    have h1 := h2
    have HO := Lib.hid ho
    clear hx ha hr ho h1 h2
    go_enter Try.func49, Try.ntmps49
    go_wp2_with fail
    refine (iMan_any _ HX.out (HA.out.keep S0.out.below) hN HR.out).mono ?_
    rintro e w1 ⟨rfl, bel⟩
    rw [HO.out]
    have S1 := Lib.hid (S0.out.go bel)
    have x1 := (S1.out.blk (i := 0) rfl).cell (i := 0) rfl
    clear bel x0
    go_wp2_with fail
    refine (ichir_any _ HO.out HX.out (HA.out.keep S1.out.below)).mono ?_
    rintro e w2 ⟨rfl, bel⟩
    have S2 := Lib.hid (S1.out.go bel)
    clear bel x1
    go_wp2
    go_ret2
    exact ⟨rfl, S2.out.below⟩

end Go.Proofs.Ytmikoihpmhfafaa
