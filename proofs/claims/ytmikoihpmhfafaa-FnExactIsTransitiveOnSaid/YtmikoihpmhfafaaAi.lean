/- FlagOrbits and IsRegular: impl's and the spec's. -/
import Derived.Test.YtmikoihpmhfafaaAh
namespace Go.Proofs.Ytmikoihpmhfafaa
open Go.RowKit

theorem retS_own {w w' : World} {L : List Int} {C : Int} {A : Option Addr} {n c : Nat} (hl : L.length = n) (own : w'.ownsRow w.heap.size 2 1 (.slice A n c) n (ints L)) (hb : Below w.heap.size w w') : RetS w L C (.returned (.tuple #[.slice A n c, .int .i64 C])) w' := by
  subst hl
  exact ⟨A, c, rfl, own, hb⟩
set_option maxHeartbeats 3200000 in
set_option maxRecDepth 8000 in
theorem iisreg_any {A : Option Addr} {c N : Nat} {xss : List (List Int)} (w : World) (hm : okMan xss = true) (hx : xss.length = N) (ha : RdSS w A xss) :
    Calls Try.prog 124 #[.agg #[.slice A N c]] w fun e w' => e = .returned (.bool (decide ((autL xss).length = flN xss))) ∧ Below w.heap.size w w' := by
  have HX := Lib.hid hx
  have HA := Lib.hid ha
  have HM := Lib.hid hm
  have st0 := (St.start w).addBlk #[.slice A N c] 26
  have S0 := Lib.hid st0
  have x0 := (st0.blk (i := 0) rfl).cell (i := 0) rfl
  obtain ⟨r, hr⟩ : ∃ r, decide ((autL xss).length = flN xss) = r := ⟨_, rfl⟩
  obtain ⟨s, hs⟩ : ∃ s, (orbsTo (autL xss) (flN xss) (flN xss)).length = s := ⟨_, rfl⟩
  have hrs : decide (s = 1) = r := by rw [← hr, ← hs]; simp only [regular_iff (okMan_iff.1 hm)]
  rw [hr]
  have HRS := Lib.hid hrs
  have HSS := Lib.hid hs
  clear st0 hx ha hm hr hs hrs
  go_enter Try.func124, Try.ntmps124
  go_wp2_with fail
  refine (iforb_any _ HM.out HX.out (HA.out.keep S0.out.below)).mono ?_
  rintro e w2 ⟨g, n, rfl, hn, own, bel⟩
  rw [HSS.out]
  have S1 := Lib.hid (S0.out.go bel)
  clear own bel x0 hn
  go_wp2
  go_ret
  exact ⟨ret_bool (by rw [← HRS.out, Bool.eq_iff_iff]; simp; try omega), S1.out.below⟩

set_option maxHeartbeats 3200000 in
set_option maxRecDepth 8000 in
theorem iFlagOrbits_any {A : Option Addr} {c N : Nat} {xss : List (List Int)} (w : World) (hx : xss.length = N) (ha : RdSS w A xss) (hN : N ≤ 1048576) (hr : ∀ xs ∈ xss, (xs.length : Int) ≤ 1048576) :
    Calls Try.prog 47 #[.agg #[.slice A N c]] w (RetS w (fobR xss) (auC xss)) := by
  have HX := Lib.hid hx
  have HA := Lib.hid ha
  have HR := Lib.hid hr
  have st0 := (St.start w).addBlk #[.slice A N c] 26
  have S0 := Lib.hid st0
  have x0 := (st0.blk (i := 0) rfl).cell (i := 0) rfl
  clear st0
  cases ho : okMan xss
  · have h1 : fobR xss = [] := by simp [fobR, ho]
    have h2 : auC xss = 1 := by simp [auC, ho]
    rw [h1, h2]
    have HO := Lib.hid ho
    clear hx ha hr ho h1 h2
    go_enter Try.func47, Try.ntmps47
    go_wp2_with fail
    refine (iMan_any _ HX.out (HA.out.keep S0.out.below) hN HR.out).mono ?_
    rintro e w1 ⟨rfl, bel⟩
    rw [HO.out]
    have S1 := Lib.hid (S0.out.go bel)
    have x1 := (S1.out.blk (i := 0) rfl).cell (i := 0) rfl
    clear bel x0
    clear x1
    go_wp2
    go_ret2
    exact ⟨none, 0, rfl, World.ownsRow_nil _ _ _ _, S1.out.below⟩
  · have h1 : fobR xss = labL (autL xss) (flN xss) := by simp [fobR, ho]
    have h2 : auC xss = 0 := by simp [auC, ho]
    rw [h1, h2]
    have HO := Lib.hid ho
    clear hx ha hr ho h1 h2
    go_enter Try.func47, Try.ntmps47
    go_wp2_with fail
    refine (iMan_any _ HX.out (HA.out.keep S0.out.below) hN HR.out).mono ?_
    rintro e w1 ⟨rfl, bel⟩
    rw [HO.out]
    have S1 := Lib.hid (S0.out.go bel)
    have x1 := (S1.out.blk (i := 0) rfl).cell (i := 0) rfl
    clear bel x0
    go_wp2_with fail
    refine (iforb_any _ HO.out HX.out (HA.out.keep S1.out.below)).mono ?_
    rintro e w2 ⟨g, n, rfl, hn, own, bel⟩
    subst hn
    have S2 := Lib.hid (S1.out.go bel)
    have OWN := Lib.hid (own_base own S1.out.lo)
    clear own bel x1
    go_wp2
    go_ret2
    exact retS_own (labL_length _ _) OWN.out S2.out.below

set_option maxHeartbeats 3200000 in
set_option maxRecDepth 8000 in
theorem iIsRegular_any {A : Option Addr} {c N : Nat} {xss : List (List Int)} (w : World) (hx : xss.length = N) (ha : RdSS w A xss) (hN : N ≤ 1048576) (hr : ∀ xs ∈ xss, (xs.length : Int) ≤ 1048576) :
    Calls Try.prog 48 #[.agg #[.slice A N c]] w (fun e w' => e = .returned (.tuple #[.bool (irrB xss), .int .i64 (auC xss)]) ∧ Below w.heap.size w w') := by
  have HX := Lib.hid hx
  have HA := Lib.hid ha
  have HR := Lib.hid hr
  have st0 := (St.start w).addBlk #[.slice A N c] 26
  have S0 := Lib.hid st0
  have x0 := (st0.blk (i := 0) rfl).cell (i := 0) rfl
  clear st0
  cases ho : okMan xss
  · have h1 : irrB xss = false := by simp [irrB, ho]
    have h2 : auC xss = 1 := by simp [auC, ho]
    rw [h1, h2]
    have HO := Lib.hid ho
    clear hx ha hr ho h1 h2
    go_enter Try.func48, Try.ntmps48
    go_wp2_with fail
    refine (iMan_any _ HX.out (HA.out.keep S0.out.below) hN HR.out).mono ?_
    rintro e w1 ⟨rfl, bel⟩
    rw [HO.out]
    have S1 := Lib.hid (S0.out.go bel)
    have x1 := (S1.out.blk (i := 0) rfl).cell (i := 0) rfl
    clear bel x0
    clear x1
    go_wp2
    go_ret2
    exact ⟨rfl, S1.out.below⟩
  · have h1 : irrB xss = decide ((autL xss).length = flN xss) := by simp [irrB, ho]
    have h2 : auC xss = 0 := by simp [auC, ho]
    rw [h1, h2]
    have HO := Lib.hid ho
    clear hx ha hr ho h1 h2
    go_enter Try.func48, Try.ntmps48
    go_wp2_with fail
    refine (iMan_any _ HX.out (HA.out.keep S0.out.below) hN HR.out).mono ?_
    rintro e w1 ⟨rfl, bel⟩
    rw [HO.out]
    have S1 := Lib.hid (S0.out.go bel)
    have x1 := (S1.out.blk (i := 0) rfl).cell (i := 0) rfl
    clear bel x0
    go_wp2_with fail
    refine (iisreg_any _ HO.out HX.out (HA.out.keep S1.out.below)).mono ?_
    rintro e w2 ⟨rfl, bel⟩
    have S2 := Lib.hid (S1.out.go bel)
    clear bel x1
    go_wp2
    go_ret2
    exact ⟨rfl, S2.out.below⟩

set_option maxHeartbeats 3200000 in
set_option maxRecDepth 8000 in
theorem sFlagOrbits_any {A : Option Addr} {c N : Nat} {xss : List (List Int)} (w : World) (hx : xss.length = N) (ha : RdSS w A xss) (hN : N ≤ 1048576) (hr : ∀ xs ∈ xss, (xs.length : Int) ≤ 1048576) :
    Calls Try.prog 86 #[.agg #[.slice A N c]] w (RetS w (fobR xss) (auC xss)) := by
  have HX := Lib.hid hx
  have HA := Lib.hid ha
  have HR := Lib.hid hr
  have st0 := (St.start w).addBlk #[.slice A N c] 26
  have S0 := Lib.hid st0
  have x0 := (st0.blk (i := 0) rfl).cell (i := 0) rfl
  clear st0
  cases ho : okMan xss
  · have h1 : fobR xss = [] := by simp [fobR, ho]
    have h2 : auC xss = 1 := by simp [auC, ho]
    rw [h1, h2]
    have HO := Lib.hid ho
    clear hx ha hr ho h1 h2
    go_enter Try.func86, Try.ntmps86
    go_wp2_with fail
    refine (sIs_any _ HX.out (HA.out.keep S0.out.below) hN HR.out).mono ?_
    rintro e w1 ⟨rfl, bel⟩
    rw [HO.out]
    have S1 := Lib.hid (S0.out.go bel)
    have x1 := (S1.out.blk (i := 0) rfl).cell (i := 0) rfl
    clear bel x0
    clear x1
    go_wp2
    go_ret2
    exact ⟨none, 0, rfl, World.ownsRow_nil _ _ _ _, S1.out.below⟩
  · have h1 : fobR xss = labL (autL xss) (flN xss) := by simp [fobR, ho]
    have h2 : auC xss = 0 := by simp [auC, ho]
    rw [h1, h2]
    have HO := Lib.hid ho
    clear hx ha hr ho h1 h2
    go_enter Try.func86, Try.ntmps86
    go_wp2_with fail
    refine (sIs_any _ HX.out (HA.out.keep S0.out.below) hN HR.out).mono ?_
    rintro e w1 ⟨rfl, bel⟩
    rw [HO.out]
    have S1 := Lib.hid (S0.out.go bel)
    have x1 := (S1.out.blk (i := 0) rfl).cell (i := 0) rfl
    clear bel x0
    go_wp2_with fail
    refine (sorbits_any _ HO.out HX.out (HA.out.keep S1.out.below)).mono ?_
    rintro e w2 ⟨A2, c2, rfl, own, bel⟩
    have S2 := Lib.hid (S1.out.go bel)
    have OWN := Lib.hid (own_base own S1.out.lo)
    clear own bel x1
    go_wp2
    go_ret2
    exact retS_own (labL_length _ _) OWN.out S2.out.below

set_option maxHeartbeats 3200000 in
set_option maxRecDepth 8000 in
theorem sIsRegular_any {A : Option Addr} {c N : Nat} {xss : List (List Int)} (w : World) (hx : xss.length = N) (ha : RdSS w A xss) (hN : N ≤ 1048576) (hr : ∀ xs ∈ xss, (xs.length : Int) ≤ 1048576) :
    Calls Try.prog 88 #[.agg #[.slice A N c]] w (fun e w' => e = .returned (.tuple #[.bool (irrB xss), .int .i64 (auC xss)]) ∧ Below w.heap.size w w') := by
  have HX := Lib.hid hx
  have HA := Lib.hid ha
  have HR := Lib.hid hr
  have st0 := (St.start w).addBlk #[.slice A N c] 26
  have S0 := Lib.hid st0
  have x0 := (st0.blk (i := 0) rfl).cell (i := 0) rfl
  clear st0
  cases ho : okMan xss
  · have h1 : irrB xss = false := by simp [irrB, ho]
    have h2 : auC xss = 1 := by simp [auC, ho]
    rw [h1, h2]
    have HO := Lib.hid ho
    clear hx ha hr ho h1 h2
    go_enter Try.func88, Try.ntmps88
    go_wp2_with fail
    refine (sIs_any _ HX.out (HA.out.keep S0.out.below) hN HR.out).mono ?_
    rintro e w1 ⟨rfl, bel⟩
    rw [HO.out]
    have S1 := Lib.hid (S0.out.go bel)
    have x1 := (S1.out.blk (i := 0) rfl).cell (i := 0) rfl
    clear bel x0
    clear x1
    go_wp2
    go_ret2
    exact ⟨rfl, S1.out.below⟩
  · have h1 : irrB xss = decide ((autL xss).length = flN xss) := by simp [irrB, ho]
    have h2 : auC xss = 0 := by simp [auC, ho]
    rw [h1, h2]
    have hman := okMan_iff.1 ho
    have hpos := hman.pos hx
    obtain ⟨b, o, A0, c0, rfl, hc0⟩ := man_row0 hman ha
    have HC0 := Lib.hid hc0
    obtain ⟨n, hn⟩ : ∃ n, flN xss = n := ⟨_, rfl⟩
    rw [hn] at hc0 ⊢
    have HN := Lib.hid hn
    clear hc0 hman hn
    have HO := Lib.hid ho
    clear hx ha hr ho h1 h2
    go_enter Try.func88, Try.ntmps88
    go_wp2_with fail
    refine (sIs_any _ HX.out (HA.out.keep S0.out.below) hN HR.out).mono ?_
    rintro e w1 ⟨rfl, bel⟩
    rw [HO.out]
    have S1 := Lib.hid (S0.out.go bel)
    have x1 := (S1.out.blk (i := 0) rfl).cell (i := 0) rfl
    clear bel x0
    have S1d := Lib.hid (S1.out.go (below_drewN (Below.refl _ _) 1))
    go_wp2
    go_region_law ((first
      | (go_simp; go_at_call 122
         refine (sauts_any _ HO.out HX.out (HA.out.keep S1d.out.below)).mono ?_
         rintro e wa ⟨A2, m, c2, rfl, hm2, own, bel⟩
         have Sa := Lib.hid (S1d.out.go bel)
         have xa := (Sa.out.blk (i := 0) rfl).cell (i := 0) rfl
         have HM2 := Lib.hid hm2
         clear bel own hm2)
      | (go_simp; go_at_call 129
         refine (sFlags_bel _ hpos (cell_be HC0.out Sa.out.below)).mono ?_
         rintro e wb ⟨rfl, belb⟩
         rw [HN.out]
         have Sb := Lib.hid (Sa.out.go belb)
         clear belb)))
    all_goals
      go_wp2
      go_ret2
      have e1 : decide ((m : Int) = (n : Int)) = decide ((autL xss).length = n) := by rw [HM2.out, Bool.eq_iff_iff]; simp; omega
      exact ⟨by rw [← e1]; rfl, Sb.out.below⟩

end Go.Proofs.Ytmikoihpmhfafaa
