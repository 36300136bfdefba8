import Derived.Test.YtbjfeogkdfmjpaaWkV
import Derived.Test.YtbjfeogkdfmjpaaWkW
namespace Go.Proofs.Ytbjfeogkdfmjpaa
open Go.RowKit

set_option maxHeartbeats 1600000 in
theorem sOrbOf_any {A : Option Addr} {c N : Nat} {xss : List (List Int)} (n pt : Int) (w : World) (hx : xss.length = N) (ha : RdSS w A xss) (hN : N ≤ 1048576) (hr : ∀ xs ∈ xss, (xs.length : Int) ≤ 1048576) :
    Calls Try.prog 64 #[.int .i64 n, .slice A N c, .int .i64 pt] w (RetS w (orbR n xss pt) (orbC n xss pt)) := by
  have HX := Lib.hid hx
  have HA := Lib.hid ha
  have HR := Lib.hid hr
  clear hx ha hr
  cases hs : okSys n xss
  · have h1 : orbR n xss pt = [] := by simp [orbR, hs]
    have h2 : orbC n xss pt = 1 := by simp [orbC, hs]
    rw [h1, h2]
    have h3 := Lib.hid (show sysC n xss = 1 by simp [sysC, hs])
    clear h1 h2 hs
    go_enter Try.func64, Try.ntmps64
    go_wp2_with fail
    refine (ssys_any n w HX.out HA.out hN HR.out).mono ?_
    rintro e w1 ⟨rfl, bel⟩
    rw [h3.out]
    have BEL := Lib.hid bel
    clear bel
    go_wp2
    go_ret2
    exact ⟨none, 0, rfl, World.ownsRow_nil _ _ _ _, BEL.out⟩
  have hp := sys_parts hs
  have hn0 := hp.1
  have hn1 := hp.2.1
  have HS := Lib.hid hs
  have h3 := Lib.hid (show sysC n xss = 0 by simp [sysC, hs])
  clear hp
  by_cases hpt : pt < 0 ∨ n - 1 < pt
  · have hb : orbIn n pt = false := decide_eq_false (by omega)
    have h1 : orbR n xss pt = [] := by simp [orbR, hb]
    have h2 : orbC n xss pt = 2 := by simp [orbC, hs, hb]
    rw [h1, h2]
    clear h1 h2 hs hb
    go_enter Try.func64, Try.ntmps64
    go_wp2_with fail
    refine (ssys_any n w HX.out HA.out hN HR.out).mono ?_
    rintro e w1 ⟨rfl, bel⟩
    rw [h3.out]
    have BEL := Lib.hid bel
    clear bel
    go_wp2_with fail
    refine (in_no pt 0 (n - 1) w1 hpt).mono ?_
    rintro e w2 ⟨rfl, rfl⟩
    go_wp2
    go_ret2
    exact ⟨none, 0, rfl, World.ownsRow_nil _ _ _ _, BEL.out⟩
  have hb : orbIn n pt = true := decide_eq_true ⟨by omega, by omega⟩
  obtain ⟨p, rfl⟩ := Int.eq_ofNat_of_zero_le (show 0 ≤ pt by omega)
  obtain ⟨m, rfl⟩ := Int.eq_ofNat_of_zero_le hn0
  have h1 : orbR (m : Int) xss (p : Int) = sortL (orbL xss m p) := by simp [orbR, hs, hb]
  have h2 : orbC (m : Int) xss (p : Int) = 0 := by simp [orbC, hs, hb]
  rw [h1, h2]
  have hpm : p < m := by omega
  have hl := passed_len (orb_passed hs hpm)
  have hp1 : (p : Int) ≤ (m : Int) - 1 := by omega
  have hp0 : 0 ≤ (p : Int) := by omega
  clear h1 h2 hb hs hpt
  go_enter Try.func64, Try.ntmps64
  go_wp2_with fail
  refine (ssys_any _ w HX.out HA.out hN HR.out).mono ?_
  rintro e w1 ⟨rfl, bel⟩
  rw [h3.out]
  have BEL := Lib.hid bel
  clear bel
  go_wp2_with fail
  refine (in_yes _ _ _ w1 hp0 hp1).mono ?_
  rintro e w2 ⟨rfl, rfl⟩
  go_wp2_with fail
  refine (sorb_any w1 HX.out (HA.out.keep BEL.out) hN HS.out hpm).mono ?_
  rintro e w3 ⟨A3, c3, rfl, own3, bel3⟩
  have OWN3 := Lib.hid own3
  have BEL3 := Lib.hid bel3
  clear own3 bel3
  go_wp2_with fail
  refine (ssort_any w3 OWN3.out (by omega)).mono ?_
  rintro e w4 ⟨A4, c4, rfl, own4, bel4⟩
  have OWN4 := Lib.hid own4
  have BEL4 := Lib.hid (BEL.out.trans ((BEL3.out.trans (bel4.mono BEL3.out.size)).mono BEL.out.size))
  have hsz := Nat.le_trans BEL.out.size BEL3.out.size
  clear own4 bel4
  go_wp2
  go_ret2
  exact ⟨A4, c4, by rw [sortL_length]; rfl, by rw [sortL_length]; exact own_base OWN4.out hsz, BEL4.out⟩

set_option maxHeartbeats 1600000 in
theorem iOrbOf_any {A : Option Addr} {c N : Nat} {xss : List (List Int)} (n pt : Int) (w : World) (hx : xss.length = N) (ha : RdSS w A xss) (hN : N ≤ 1048576) (hr : ∀ xs ∈ xss, (xs.length : Int) ≤ 1048576) :
    Calls Try.prog 40 #[.int .i64 n, .slice A N c, .int .i64 pt] w (RetS w (orbR n xss pt) (orbC n xss pt)) := by
  have HX := Lib.hid hx
  have HA := Lib.hid ha
  have HR := Lib.hid hr
  clear hx ha hr
  cases hs : okSys n xss
  · have h1 : orbR n xss pt = [] := by simp [orbR, hs]
    have h2 : orbC n xss pt = 1 := by simp [orbC, hs]
    rw [h1, h2]
    have HS := Lib.hid hs
    clear h1 h2 hs
    go_enter Try.func40, Try.ntmps40
    go_wp2_with fail
    refine (isys_any n w HX.out HA.out hN HR.out).mono ?_
    rintro e w1 ⟨rfl, bel⟩
    rw [HS.out]
    have BEL := Lib.hid bel
    clear bel
    go_wp2
    go_ret2
    exact ⟨none, 0, rfl, World.ownsRow_nil _ _ _ _, BEL.out⟩
  have hp := sys_parts hs
  have hn0 := hp.1
  have hn1 := hp.2.1
  have HS := Lib.hid hs
  clear hp
  by_cases hpt0 : pt < 0
  · have hb : orbIn n pt = false := decide_eq_false (by omega)
    have h1 : orbR n xss pt = [] := by simp [orbR, hb]
    have h2 : orbC n xss pt = 2 := by simp [orbC, hs, hb]
    rw [h1, h2]
    clear h1 h2 hs hb
    go_enter Try.func40, Try.ntmps40
    go_wp2_with fail
    refine (isys_any n w HX.out HA.out hN HR.out).mono ?_
    rintro e w1 ⟨rfl, bel⟩
    rw [HS.out]
    have BEL := Lib.hid bel
    clear bel
    go_wp2
    go_ret2
    exact ⟨none, 0, rfl, World.ownsRow_nil _ _ _ _, BEL.out⟩
  by_cases hpt1 : n ≤ pt
  · have hb : orbIn n pt = false := decide_eq_false (by omega)
    have h1 : orbR n xss pt = [] := by simp [orbR, hb]
    have h2 : orbC n xss pt = 2 := by simp [orbC, hs, hb]
    rw [h1, h2]
    clear h1 h2 hs hb
    go_enter Try.func40, Try.ntmps40
    go_wp2_with fail
    refine (isys_any n w HX.out HA.out hN HR.out).mono ?_
    rintro e w1 ⟨rfl, bel⟩
    rw [HS.out]
    have BEL := Lib.hid bel
    clear bel
    go_wp2
    go_ret2
    exact ⟨none, 0, rfl, World.ownsRow_nil _ _ _ _, BEL.out⟩
  have hb : orbIn n pt = true := decide_eq_true ⟨by omega, by omega⟩
  obtain ⟨p, rfl⟩ := Int.eq_ofNat_of_zero_le (show 0 ≤ pt by omega)
  obtain ⟨m, rfl⟩ := Int.eq_ofNat_of_zero_le hn0
  have h1 : orbR (m : Int) xss (p : Int) = sortL (orbL xss m p) := by simp [orbR, hs, hb]
  have h2 : orbC (m : Int) xss (p : Int) = 0 := by simp [orbC, hs, hb]
  rw [h1, h2]
  have hpm : p < m := by omega
  have hl := passed_len (orb_passed hs hpm)
  have hp1 : (p : Int) < (m : Int) := by omega
  have hp0 : 0 ≤ (p : Int) := by omega
  clear h1 h2 hb hs hpt0 hpt1
  have hmk := run_make_row' (P := Try.prog) 54 4 (.bool false) 1 Try.underlying54 Try.infoB rfl .i64 .i64 m (by omega) (by omega)
  go_enter Try.func40, Try.ntmps40
  go_wp2_with fail
  refine (isys_any _ w HX.out HA.out hN HR.out).mono ?_
  rintro e w1 ⟨rfl, bel⟩
  rw [HS.out]
  have BEL := Lib.hid bel
  clear bel
  have hbm : Below w1.heap.size w1 (w1.alloc (.cells (madeCells #[.bool false] m) 4)) := (Below.refl _ _).alloc (Nat.le_refl _) _
  have BM := Lib.hid hbm
  clear hbm
  go_wp2_with fail
  clear hmk
  refine (iorb_any (base := w1.heap.size) w1 _ HX.out (HA.out.keep BEL.out) BM.out (Nat.le_refl _) hN HS.out hpm (passed_nil m) (closed_nil xss) (by simp) (seen_start w1 m (by omega))).mono ?_
  rintro e w3 ⟨A3, c3, rfl, own3, _, tu3⟩
  have hin := own_in own3
  have hs1 : (w1.alloc (.cells (madeCells #[.bool false] m) 4)).heap.size = w1.heap.size + 1 := by simp
  have HB3 := Lib.hid (tu3.below BM.out BM.out.size (Nat.le_refl _))
  rw [hs1] at hin own3
  have OWN3 := Lib.hid own3
  have HIN := Lib.hid hin
  clear own3 tu3 hin hs1
  go_wp2_with fail
  refine (sort_any w3 OWN3.out (by omega)).mono ?_
  rintro e w4 ⟨rfl, own4, gr4⟩
  have hz1 := BEL.out.size
  have hz3 := HB3.out.size
  have OWN4 := Lib.hid own4
  have BEL4 := Lib.hid (below_mark (BEL.out.trans (HB3.out.mono BEL.out.size)) gr4 HIN.out (by omega) (by omega))
  clear own4 gr4
  go_wp2
  go_ret2
  exact ⟨A3, c3, by rw [sortL_length]; rfl, by rw [sortL_length]; exact own_base OWN4.out (by omega), BEL4.out⟩
end Go.Proofs.Ytbjfeogkdfmjpaa
