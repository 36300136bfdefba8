/- CoveringOf and CountCoverings: impl's and the spec's. -/
import Derived.Test.YtmgoaabeopnopaaC1
import Derived.Test.YtmgoaabeopnopaaAe
namespace Go.Proofs.Ytmgoaabeopnopaa
open Go.RowKit

set_option maxHeartbeats 3200000 in
set_option maxRecDepth 8000 in
theorem iCoveringOf_any {A A1 : Option Addr} {N c k c1 : Nat} {xss yss : List (List Int)} (w : World) (hx : xss.length = N) (ha : RdSS w A xss) (hN : N ≤ 1048576) (hr : ∀ xs ∈ xss, (xs.length : Int) ≤ 1048576) (hy : yss.length = k) (hb : RdSS w A1 yss) (hk : k ≤ 1048576) (hs : ∀ xs ∈ yss, (xs.length : Int) ≤ 1048576) :
    Calls Try.prog 28 #[.agg #[.slice A N c], .agg #[.slice A1 k c1]] w (RetS w (coR7 xss yss) (coC7 xss yss)) := by
  have HX := Lib.hid hx
  have HA := Lib.hid ha
  have HR := Lib.hid hr
  have HY := Lib.hid hy
  have HB := Lib.hid hb
  have HT := Lib.hid hs
  have st0 := ((St.start w).addBlk #[.slice A N c] 27).addBlk #[.slice A1 k c1] 27
  simp at st0
  have S0 := Lib.hid st0
  have x0 := (st0.blk (i := 0) rfl).cell (i := 0) rfl
  have y0 := (st0.blk (i := 1) rfl).cell (i := 0) rfl
  clear st0 hx ha hr hy hb hs
  cases ho : okMan xss
  · have HO := Lib.hid ho
    have e0 : coR7 xss yss = [] := by simp [coR7, ho]
    have e1 : coC7 xss yss = 1 := by simp [coC7, ho]
    rw [e0, e1]
    clear e0 e1
    clear ho
    go_enter Try.func28, Try.ntmps28
    go_wp2_with fail
    refine (iMan_any _ HX.out (HA.out.keep S0.out.below) hN HR.out).mono ?_
    rintro e w1 ⟨rfl, bel⟩
    rw [HO.out]
    have S1 := Lib.hid (S0.out.go bel)
    clear bel
    go_wp2
    go_ret2
    exact ⟨none, 0, rfl, World.ownsRow_nil _ _ _ _, S1.out.below⟩
  · cases hp : okMan yss
    · have HO := Lib.hid ho
      have HP := Lib.hid hp
      have e0 : coR7 xss yss = [] := by simp [coR7, ho, hp]
      have e1 : coC7 xss yss = 1 := by simp [coC7, ho, hp]
      rw [e0, e1]
      clear e0 e1
      clear ho hp
      go_enter Try.func28, Try.ntmps28
      go_wp2_with fail
      refine (iMan_any _ HX.out (HA.out.keep S0.out.below) hN HR.out).mono ?_
      rintro e w1 ⟨rfl, bel⟩
      rw [HO.out]
      have S1 := Lib.hid (S0.out.go bel)
      have y1 := (S1.out.blk (i := 1) rfl).cell (i := 0) rfl
      clear bel
      go_wp2_with fail
      refine (iMan_any _ HY.out (HB.out.keep S1.out.below) hk HT.out).mono ?_
      rintro e w2 ⟨rfl, bel⟩
      rw [HP.out]
      have S2 := Lib.hid (S1.out.go bel)
      clear bel y1
      go_wp2
      go_ret2
      exact ⟨none, 0, rfl, World.ownsRow_nil _ _ _ _, S2.out.below⟩
    · obtain ⟨CL, hCL⟩ : ∃ CL, covL7 xss yss = CL := ⟨_, rfl⟩
      have HO := Lib.hid ho
      have HP := Lib.hid hp
      have HCL := Lib.hid hCL
      cases CL with
      | nil =>
        have e0 : coR7 xss yss = [] := by simp [coR7, ho, hp, hCL]
        have e1 : coC7 xss yss = 4 := by simp [coC7, ho, hp, hCL]
        rw [e0, e1]
        clear e0 e1
        clear ho hp hCL
        go_enter Try.func28, Try.ntmps28
        go_wp2_with fail
        refine (iMan_any _ HX.out (HA.out.keep S0.out.below) hN HR.out).mono ?_
        rintro e w1 ⟨rfl, bel⟩
        rw [HO.out]
        have S1 := Lib.hid (S0.out.go bel)
        have x1 := (S1.out.blk (i := 0) rfl).cell (i := 0) rfl
        have y1 := (S1.out.blk (i := 1) rfl).cell (i := 0) rfl
        clear bel x0 y0
        go_wp2_with fail
        refine (iMan_any _ HY.out (HB.out.keep S1.out.below) hk HT.out).mono ?_
        rintro e w2 ⟨rfl, bel⟩
        rw [HP.out]
        have S2 := Lib.hid (S1.out.go bel)
        have x2 := (S2.out.blk (i := 0) rfl).cell (i := 0) rfl
        have y2 := (S2.out.blk (i := 1) rfl).cell (i := 0) rfl
        clear bel x1 y1
        go_wp2_with fail
        refine (iCovs_any _ HO.out HP.out HX.out HY.out (HA.out.keep S2.out.below) (HB.out.keep S2.out.below)).mono ?_
        rintro e w3 ⟨A3, m3, c3, rfl, hm3, own, bel⟩
        rw [HCL.out] at own hm3
        have S3 := Lib.hid (S2.out.go bel)
        simp at hm3
        subst hm3
        clear bel own x2 y2
        go_wp2
        go_ret2
        exact ⟨none, 0, rfl, World.ownsRow_nil _ _ _ _, S3.out.below⟩
      | cons a l =>
        have e0 : coR7 xss yss = a := by simp [coR7, ho, hp, hCL]
        have e1 : coC7 xss yss = 0 := by simp [coC7, ho, hp, hCL]
        rw [e0, e1]
        clear e0 e1
        clear ho hp hCL
        go_enter Try.func28, Try.ntmps28
        go_wp2_with fail
        refine (iMan_any _ HX.out (HA.out.keep S0.out.below) hN HR.out).mono ?_
        rintro e w1 ⟨rfl, bel⟩
        rw [HO.out]
        have S1 := Lib.hid (S0.out.go bel)
        have x1 := (S1.out.blk (i := 0) rfl).cell (i := 0) rfl
        have y1 := (S1.out.blk (i := 1) rfl).cell (i := 0) rfl
        clear bel x0 y0
        go_wp2_with fail
        refine (iMan_any _ HY.out (HB.out.keep S1.out.below) hk HT.out).mono ?_
        rintro e w2 ⟨rfl, bel⟩
        rw [HP.out]
        have S2 := Lib.hid (S1.out.go bel)
        have x2 := (S2.out.blk (i := 0) rfl).cell (i := 0) rfl
        have y2 := (S2.out.blk (i := 1) rfl).cell (i := 0) rfl
        clear bel x1 y1
        go_wp2_with fail
        refine (iCovs_any _ HO.out HP.out HX.out HY.out (HA.out.keep S2.out.below) (HB.out.keep S2.out.below)).mono ?_
        rintro e w3 ⟨A3, m3, c3, rfl, hm3, own, bel⟩
        rw [HCL.out] at own hm3
        obtain ⟨vals, st3⟩ := S2.out.addRows bel own (Nat.le_refl _) (Nat.le_refl _)
        have hm1 : 0 < m3 := by rw [← hm3]; simp
        have hmI : ¬ ((m3 : Int) = 0) := by omega
        have S3 := Lib.hid st3
        obtain ⟨g, rfl⟩ := own_shape (S3.out.rows (i := 2) rfl) hm1
        obtain ⟨A5, c5, hv, ow⟩ := S3.out.rowAt (i := 2) rfl (k := 0) (xs := a) rfl
        have hcell := own_cell (S3.out.rows (i := 2) rfl) hv
        have OW := Lib.hid ow
        clear bel own x2 y2 st3 hm3 hv ow
        go_wp2
        go_ret2
        exact ⟨A5, c5, rfl, OW.out, S3.out.below⟩

set_option maxHeartbeats 3200000 in
set_option maxRecDepth 8000 in
theorem sCoveringOf_any {A A1 : Option Addr} {N c k c1 : Nat} {xss yss : List (List Int)} (w : World) (hx : xss.length = N) (ha : RdSS w A xss) (hN : N ≤ 1048576) (hr : ∀ xs ∈ xss, (xs.length : Int) ≤ 1048576) (hy : yss.length = k) (hb : RdSS w A1 yss) (hk : k ≤ 1048576) (hs : ∀ xs ∈ yss, (xs.length : Int) ≤ 1048576) :
    Calls Try.prog 27 #[.agg #[.slice A N c], .agg #[.slice A1 k c1]] w (RetS w (coR7 xss yss) (coC7 xss yss)) := by
  have HX := Lib.hid hx
  have HA := Lib.hid ha
  have HR := Lib.hid hr
  have HY := Lib.hid hy
  have HB := Lib.hid hb
  have HT := Lib.hid hs
  have st0 := ((St.start w).addBlk #[.slice A N c] 27).addBlk #[.slice A1 k c1] 27
  simp at st0
  have S0 := Lib.hid st0
  have x0 := (st0.blk (i := 0) rfl).cell (i := 0) rfl
  have y0 := (st0.blk (i := 1) rfl).cell (i := 0) rfl
  clear st0 hx ha hr hy hb hs
  cases ho : okMan xss
  · have HO := Lib.hid ho
    have e0 : coR7 xss yss = [] := by simp [coR7, ho]
    have e1 : coC7 xss yss = 1 := by simp [coC7, ho]
    rw [e0, e1]
    clear e0 e1
    clear ho
    go_enter Try.func27, Try.ntmps27
    go_wp2_with fail
    refine (sIs_any _ HX.out (HA.out.keep S0.out.below) hN HR.out).mono ?_
    rintro e w1 ⟨rfl, bel⟩
    rw [HO.out]
    have S1 := Lib.hid (S0.out.go bel)
    clear bel
    go_wp2
    go_ret2
    exact ⟨none, 0, rfl, World.ownsRow_nil _ _ _ _, S1.out.below⟩
  · cases hp : okMan yss
    · have HO := Lib.hid ho
      have HP := Lib.hid hp
      have e0 : coR7 xss yss = [] := by simp [coR7, ho, hp]
      have e1 : coC7 xss yss = 1 := by simp [coC7, ho, hp]
      rw [e0, e1]
      clear e0 e1
      clear ho hp
      go_enter Try.func27, Try.ntmps27
      go_wp2_with fail
      refine (sIs_any _ HX.out (HA.out.keep S0.out.below) hN HR.out).mono ?_
      rintro e w1 ⟨rfl, bel⟩
      rw [HO.out]
      have S1 := Lib.hid (S0.out.go bel)
      have y1 := (S1.out.blk (i := 1) rfl).cell (i := 0) rfl
      clear bel
      go_wp2_with fail
      refine (sIs_any _ HY.out (HB.out.keep S1.out.below) hk HT.out).mono ?_
      rintro e w2 ⟨rfl, bel⟩
      rw [HP.out]
      have S2 := Lib.hid (S1.out.go bel)
      clear bel y1
      go_wp2
      go_ret2
      exact ⟨none, 0, rfl, World.ownsRow_nil _ _ _ _, S2.out.below⟩
    · obtain ⟨CL, hCL⟩ : ∃ CL, covL7 xss yss = CL := ⟨_, rfl⟩
      have HO := Lib.hid ho
      have HP := Lib.hid hp
      have HCL := Lib.hid hCL
      cases CL with
      | nil =>
        have e0 : coR7 xss yss = [] := by simp [coR7, ho, hp, hCL]
        have e1 : coC7 xss yss = 4 := by simp [coC7, ho, hp, hCL]
        rw [e0, e1]
        clear e0 e1
        clear ho hp hCL
        go_enter Try.func27, Try.ntmps27
        go_wp2_with fail
        refine (sIs_any _ HX.out (HA.out.keep S0.out.below) hN HR.out).mono ?_
        rintro e w1 ⟨rfl, bel⟩
        rw [HO.out]
        have S1 := Lib.hid (S0.out.go bel)
        have x1 := (S1.out.blk (i := 0) rfl).cell (i := 0) rfl
        have y1 := (S1.out.blk (i := 1) rfl).cell (i := 0) rfl
        clear bel x0 y0
        go_wp2_with fail
        refine (sIs_any _ HY.out (HB.out.keep S1.out.below) hk HT.out).mono ?_
        rintro e w2 ⟨rfl, bel⟩
        rw [HP.out]
        have S2 := Lib.hid (S1.out.go bel)
        have x2 := (S2.out.blk (i := 0) rfl).cell (i := 0) rfl
        have y2 := (S2.out.blk (i := 1) rfl).cell (i := 0) rfl
        clear bel x1 y1
        go_wp2_with fail
        refine (sCovs_any _ HO.out HP.out HX.out HY.out (HA.out.keep S2.out.below) (HB.out.keep S2.out.below)).mono ?_
        rintro e w3 ⟨A3, m3, c3, rfl, hm3, own, bel⟩
        rw [HCL.out] at own hm3
        have S3 := Lib.hid (S2.out.go bel)
        simp at hm3
        subst hm3
        clear bel own x2 y2
        go_wp2
        go_ret2
        exact ⟨none, 0, rfl, World.ownsRow_nil _ _ _ _, S3.out.below⟩
      | cons a l =>
        have e0 : coR7 xss yss = a := by simp [coR7, ho, hp, hCL]
        have e1 : coC7 xss yss = 0 := by simp [coC7, ho, hp, hCL]
        rw [e0, e1]
        clear e0 e1
        clear ho hp hCL
        go_enter Try.func27, Try.ntmps27
        go_wp2_with fail
        refine (sIs_any _ HX.out (HA.out.keep S0.out.below) hN HR.out).mono ?_
        rintro e w1 ⟨rfl, bel⟩
        rw [HO.out]
        have S1 := Lib.hid (S0.out.go bel)
        have x1 := (S1.out.blk (i := 0) rfl).cell (i := 0) rfl
        have y1 := (S1.out.blk (i := 1) rfl).cell (i := 0) rfl
        clear bel x0 y0
        go_wp2_with fail
        refine (sIs_any _ HY.out (HB.out.keep S1.out.below) hk HT.out).mono ?_
        rintro e w2 ⟨rfl, bel⟩
        rw [HP.out]
        have S2 := Lib.hid (S1.out.go bel)
        have x2 := (S2.out.blk (i := 0) rfl).cell (i := 0) rfl
        have y2 := (S2.out.blk (i := 1) rfl).cell (i := 0) rfl
        clear bel x1 y1
        go_wp2_with fail
        refine (sCovs_any _ HO.out HP.out HX.out HY.out (HA.out.keep S2.out.below) (HB.out.keep S2.out.below)).mono ?_
        rintro e w3 ⟨A3, m3, c3, rfl, hm3, own, bel⟩
        rw [HCL.out] at own hm3
        obtain ⟨vals, st3⟩ := S2.out.addRows bel own (Nat.le_refl _) (Nat.le_refl _)
        have hm1 : 0 < m3 := by rw [← hm3]; simp
        have hmI : ¬ ((m3 : Int) = 0) := by omega
        have S3 := Lib.hid st3
        obtain ⟨g, rfl⟩ := own_shape (S3.out.rows (i := 2) rfl) hm1
        obtain ⟨A5, c5, hv, ow⟩ := S3.out.rowAt (i := 2) rfl (k := 0) (xs := a) rfl
        have hcell := own_cell (S3.out.rows (i := 2) rfl) hv
        have OW := Lib.hid ow
        clear bel own x2 y2 st3 hm3 hv ow
        go_wp2
        go_ret2
        exact ⟨A5, c5, rfl, OW.out, S3.out.below⟩

set_option maxHeartbeats 3200000 in
set_option maxRecDepth 8000 in
theorem iCountCoverings_any {A A1 : Option Addr} {N c k c1 : Nat} {xss yss : List (List Int)} (w : World) (hx : xss.length = N) (ha : RdSS w A xss) (hN : N ≤ 1048576) (hr : ∀ xs ∈ xss, (xs.length : Int) ≤ 1048576) (hy : yss.length = k) (hb : RdSS w A1 yss) (hk : k ≤ 1048576) (hs : ∀ xs ∈ yss, (xs.length : Int) ≤ 1048576) :
    Calls Try.prog 33 #[.agg #[.slice A N c], .agg #[.slice A1 k c1]] w (fun e w' => e = .returned (.tuple #[.int .i64 (ccN7 xss yss), .int .i64 (ccC7 xss yss)]) ∧ Below w.heap.size w w') := by
  have HX := Lib.hid hx
  have HA := Lib.hid ha
  have HR := Lib.hid hr
  have HY := Lib.hid hy
  have HB := Lib.hid hb
  have HT := Lib.hid hs
  have st0 := ((St.start w).addBlk #[.slice A N c] 27).addBlk #[.slice A1 k c1] 27
  simp at st0
  have S0 := Lib.hid st0
  have x0 := (st0.blk (i := 0) rfl).cell (i := 0) rfl
  have y0 := (st0.blk (i := 1) rfl).cell (i := 0) rfl
  clear st0 hx ha hr hy hb hs
  cases ho : okMan xss
  · have HO := Lib.hid ho
    have e0 : ccN7 xss yss = 0 := by simp [ccN7, ho]
    have e1 : ccC7 xss yss = 1 := by simp [ccC7, ho]
    rw [e0, e1]
    clear e0 e1
    clear ho
    go_enter Try.func33, Try.ntmps33
    go_wp2_with fail
    refine (iMan_any _ HX.out (HA.out.keep S0.out.below) hN HR.out).mono ?_
    rintro e w1 ⟨rfl, bel⟩
    rw [HO.out]
    have S1 := Lib.hid (S0.out.go bel)
    clear bel
    go_wp2
    go_ret2
    exact ⟨rfl, S1.out.below⟩
  · cases hp : okMan yss
    · have HO := Lib.hid ho
      have HP := Lib.hid hp
      have e0 : ccN7 xss yss = 0 := by simp [ccN7, ho, hp]
      have e1 : ccC7 xss yss = 1 := by simp [ccC7, ho, hp]
      rw [e0, e1]
      clear e0 e1
      clear ho hp
      go_enter Try.func33, Try.ntmps33
      go_wp2_with fail
      refine (iMan_any _ HX.out (HA.out.keep S0.out.below) hN HR.out).mono ?_
      rintro e w1 ⟨rfl, bel⟩
      rw [HO.out]
      have S1 := Lib.hid (S0.out.go bel)
      have y1 := (S1.out.blk (i := 1) rfl).cell (i := 0) rfl
      clear bel
      go_wp2_with fail
      refine (iMan_any _ HY.out (HB.out.keep S1.out.below) hk HT.out).mono ?_
      rintro e w2 ⟨rfl, bel⟩
      rw [HP.out]
      have S2 := Lib.hid (S1.out.go bel)
      clear bel y1
      go_wp2
      go_ret2
      exact ⟨rfl, S2.out.below⟩
    · obtain ⟨CL, hCL⟩ : ∃ CL, covL7 xss yss = CL := ⟨_, rfl⟩
      have HO := Lib.hid ho
      have HP := Lib.hid hp
      have HCL := Lib.hid hCL
      have e0 : ccN7 xss yss = (CL.length : Int) := by simp [ccN7, ho, hp, hCL]
      have e1 : ccC7 xss yss = 0 := by simp [ccC7, ho, hp]
      rw [e0, e1]
      clear e0 e1
      clear ho hp hCL
      go_enter Try.func33, Try.ntmps33
      go_wp2_with fail
      refine (iMan_any _ HX.out (HA.out.keep S0.out.below) hN HR.out).mono ?_
      rintro e w1 ⟨rfl, bel⟩
      rw [HO.out]
      have S1 := Lib.hid (S0.out.go bel)
      have x1 := (S1.out.blk (i := 0) rfl).cell (i := 0) rfl
      have y1 := (S1.out.blk (i := 1) rfl).cell (i := 0) rfl
      clear bel x0 y0
      go_wp2_with fail
      refine (iMan_any _ HY.out (HB.out.keep S1.out.below) hk HT.out).mono ?_
      rintro e w2 ⟨rfl, bel⟩
      rw [HP.out]
      have S2 := Lib.hid (S1.out.go bel)
      have x2 := (S2.out.blk (i := 0) rfl).cell (i := 0) rfl
      have y2 := (S2.out.blk (i := 1) rfl).cell (i := 0) rfl
      clear bel x1 y1
      go_wp2_with fail
      refine (iCovs_any _ HO.out HP.out HX.out HY.out (HA.out.keep S2.out.below) (HB.out.keep S2.out.below)).mono ?_
      rintro e w3 ⟨A3, m3, c3, rfl, hm3, own, bel⟩
      rw [HCL.out] at own hm3
      have S3 := Lib.hid (S2.out.go bel)
      subst hm3
      clear bel own x2 y2
      go_wp2
      go_ret2
      exact ⟨rfl, S3.out.below⟩

set_option maxHeartbeats 3200000 in
set_option maxRecDepth 8000 in
theorem sCountCoverings_any {A A1 : Option Addr} {N c k c1 : Nat} {xss yss : List (List Int)} (w : World) (hx : xss.length = N) (ha : RdSS w A xss) (hN : N ≤ 1048576) (hr : ∀ xs ∈ xss, (xs.length : Int) ≤ 1048576) (hy : yss.length = k) (hb : RdSS w A1 yss) (hk : k ≤ 1048576) (hs : ∀ xs ∈ yss, (xs.length : Int) ≤ 1048576) :
    Calls Try.prog 32 #[.agg #[.slice A N c], .agg #[.slice A1 k c1]] w (fun e w' => e = .returned (.tuple #[.int .i64 (ccN7 xss yss), .int .i64 (ccC7 xss yss)]) ∧ Below w.heap.size w w') := by
  have HX := Lib.hid hx
  have HA := Lib.hid ha
  have HR := Lib.hid hr
  have HY := Lib.hid hy
  have HB := Lib.hid hb
  have HT := Lib.hid hs
  have st0 := ((St.start w).addBlk #[.slice A N c] 27).addBlk #[.slice A1 k c1] 27
  simp at st0
  have S0 := Lib.hid st0
  have x0 := (st0.blk (i := 0) rfl).cell (i := 0) rfl
  have y0 := (st0.blk (i := 1) rfl).cell (i := 0) rfl
  clear st0 hx ha hr hy hb hs
  cases ho : okMan xss
  · have HO := Lib.hid ho
    have e0 : ccN7 xss yss = 0 := by simp [ccN7, ho]
    have e1 : ccC7 xss yss = 1 := by simp [ccC7, ho]
    rw [e0, e1]
    clear e0 e1
    clear ho
    go_enter Try.func32, Try.ntmps32
    go_wp2_with fail
    refine (sIs_any _ HX.out (HA.out.keep S0.out.below) hN HR.out).mono ?_
    rintro e w1 ⟨rfl, bel⟩
    rw [HO.out]
    have S1 := Lib.hid (S0.out.go bel)
    clear bel
    go_wp2
    go_ret2
    exact ⟨rfl, S1.out.below⟩
  · cases hp : okMan yss
    · have HO := Lib.hid ho
      have HP := Lib.hid hp
      have e0 : ccN7 xss yss = 0 := by simp [ccN7, ho, hp]
      have e1 : ccC7 xss yss = 1 := by simp [ccC7, ho, hp]
      rw [e0, e1]
      clear e0 e1
      clear ho hp
      go_enter Try.func32, Try.ntmps32
      go_wp2_with fail
      refine (sIs_any _ HX.out (HA.out.keep S0.out.below) hN HR.out).mono ?_
      rintro e w1 ⟨rfl, bel⟩
      rw [HO.out]
      have S1 := Lib.hid (S0.out.go bel)
      have y1 := (S1.out.blk (i := 1) rfl).cell (i := 0) rfl
      clear bel
      go_wp2_with fail
      refine (sIs_any _ HY.out (HB.out.keep S1.out.below) hk HT.out).mono ?_
      rintro e w2 ⟨rfl, bel⟩
      rw [HP.out]
      have S2 := Lib.hid (S1.out.go bel)
      clear bel y1
      go_wp2
      go_ret2
      exact ⟨rfl, S2.out.below⟩
    · obtain ⟨CL, hCL⟩ : ∃ CL, covL7 xss yss = CL := ⟨_, rfl⟩
      have HO := Lib.hid ho
      have HP := Lib.hid hp
      have HCL := Lib.hid hCL
      have e0 : ccN7 xss yss = (CL.length : Int) := by simp [ccN7, ho, hp, hCL]
      have e1 : ccC7 xss yss = 0 := by simp [ccC7, ho, hp]
      rw [e0, e1]
      clear e0 e1
      clear ho hp hCL
      go_enter Try.func32, Try.ntmps32
      go_wp2_with fail
      refine (sIs_any _ HX.out (HA.out.keep S0.out.below) hN HR.out).mono ?_
      rintro e w1 ⟨rfl, bel⟩
      rw [HO.out]
      have S1 := Lib.hid (S0.out.go bel)
      have x1 := (S1.out.blk (i := 0) rfl).cell (i := 0) rfl
      have y1 := (S1.out.blk (i := 1) rfl).cell (i := 0) rfl
      clear bel x0 y0
      go_wp2_with fail
      refine (sIs_any _ HY.out (HB.out.keep S1.out.below) hk HT.out).mono ?_
      rintro e w2 ⟨rfl, bel⟩
      rw [HP.out]
      have S2 := Lib.hid (S1.out.go bel)
      have x2 := (S2.out.blk (i := 0) rfl).cell (i := 0) rfl
      have y2 := (S2.out.blk (i := 1) rfl).cell (i := 0) rfl
      clear bel x1 y1
      go_wp2_with fail
      refine (sCovs_any _ HO.out HP.out HX.out HY.out (HA.out.keep S2.out.below) (HB.out.keep S2.out.below)).mono ?_
      rintro e w3 ⟨A3, m3, c3, rfl, hm3, own, bel⟩
      rw [HCL.out] at own hm3
      have S3 := Lib.hid (S2.out.go bel)
      subst hm3
      clear bel own x2 y2
      go_wp2
      go_ret2
      exact ⟨rfl, S3.out.below⟩

end Go.Proofs.Ytmgoaabeopnopaa
