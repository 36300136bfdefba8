/- FaceOrbits and IsTransitiveOn: impl's and the spec's. -/
import Derived.Test.YtmgoaabeopnopaaL22
namespace Go.Proofs.Ytmgoaabeopnopaa
open Go.RowKit

theorem foR6_le (xss : List (List Int)) (i : Int) : (foR6 xss i).length ≤ 1048576 := by
  unfold foR6
  split
  · rename_i h
    have hm := okMan_iff.1 (fcC_in (y := 0) h).1
    have h4 := hm.f4
    have := fcn_le (i := i.toNat) hm
    rw [foL, labL_length]
    omega
  · simp
/-- Whether there is one orbit of faces. -/
noncomputable def trB (xss : List (List Int)) (i : Int) : Bool := decide (rkC xss i = 0) && decide ((orbsTo (fpsL xss i.toNat) (fcn xss i.toNat) (fcn xss i.toNat)).length = 1)

set_option maxHeartbeats 6400000 in
set_option maxRecDepth 100000 in
theorem iFaceOrbits_any {A : Option Addr} {c N : Nat} {xss : List (List Int)} (i : Int) (w : World) (hx : xss.length = N) (ha : RdSS w A xss) (hN : N ≤ 1048576) (hr : ∀ xs ∈ xss, (xs.length : Int) ≤ 1048576) (hcap : N ≤ c) (hc63 : c ≤ 9223372036854775807) :
    Calls Try.prog 72 #[.agg #[.slice A N c], .int .i64 i] w (RetS w (foR6 xss i) (rkC xss i)) := by
  have HX := Lib.hid hx
  have HA := Lib.hid ha
  have HR := Lib.hid hr
  have st0 := (St.start w).addBlk #[.slice A N c] 27
  have S0 := Lib.hid st0
  have x0 := (st0.blk (i := 0) rfl).cell (i := 0) rfl
  clear st0
  cases ho : okMan xss
  · have h2 : rkC xss i = 1 := by simp [rkC, ho]
    have h1 : foR6 xss i = [] := by simp [foR6, h2]
    rw [h1, h2]
    have HO := Lib.hid ho
    clear hx ha hr ho h1 h2
    go_enter Try.func72, Try.ntmps72
    go_wp2_with fail
    refine (iMan_any _ HX.out (HA.out.keep S0.out.below) hN HR.out).mono ?_
    rintro e w1 ⟨rfl, bel⟩
    rw [HO.out]
    have S1 := Lib.hid (S0.out.go bel)
    have x1 := (S1.out.blk (i := 0) rfl).cell (i := 0) rfl
    clear bel x0
    clear x1
    go_wp2
    go_ret2
    exact ⟨none, 0, rfl, World.ownsRow_nil _ _ _ _, S1.out.below⟩
  · cases hf : flagB N i
    · have h2 : rkC xss i = 2 := by simp [rkC, ho, hx, hf]
      have h1 : foR6 xss i = [] := by simp [foR6, h2]
      rw [h1, h2]
      have HO := Lib.hid ho
      have HF := Lib.hid hf
      clear hx ha hr ho hf h1 h2
      go_enter Try.func72, Try.ntmps72
      go_wp2_with fail
      refine (iMan_any _ HX.out (HA.out.keep S0.out.below) hN HR.out).mono ?_
      rintro e w1 ⟨rfl, bel⟩
      rw [HO.out]
      have S1 := Lib.hid (S0.out.go bel)
      have x1 := (S1.out.blk (i := 0) rfl).cell (i := 0) rfl
      clear bel x0
      go_wp2_with fail
      refine (iRank_bel _ _ HF.out).mono ?_
      rintro e w2 ⟨rfl, bel⟩
      have S2 := Lib.hid (S1.out.go bel)
      clear bel x1
      go_wp2
      go_ret2
      exact ⟨none, 0, rfl, World.ownsRow_nil _ _ _ _, S2.out.below⟩
    · have h2 : rkC xss i = 0 := by simp [rkC, ho, hx, hf]
      obtain ⟨i0, rfl, hi0⟩ := flagB_true hf
      have h1 : foR6 xss (i0 : Int) = foL xss i0 := by rw [foR6, if_pos h2, Int.toNat_natCast]
      rw [h1, h2]
      have HO := Lib.hid ho
      have HF := Lib.hid hf
      clear hx ha hr ho hf h1 h2
      go_enter Try.func72, Try.ntmps72
      go_wp2_with fail
      refine (iMan_any _ HX.out (HA.out.keep S0.out.below) hN HR.out).mono ?_
      rintro e w1 ⟨rfl, bel⟩
      rw [HO.out]
      have S1 := Lib.hid (S0.out.go bel)
      have x1 := (S1.out.blk (i := 0) rfl).cell (i := 0) rfl
      clear bel x0
      go_wp2_with fail
      refine (iRank_bel _ _ HF.out).mono ?_
      rintro e w2 ⟨rfl, bel⟩
      have S2 := Lib.hid (S1.out.go bel)
      have x2 := (S2.out.blk (i := 0) rfl).cell (i := 0) rfl
      clear bel x1
      go_wp2_with fail
      refine (ifoc_any _ HO.out HX.out (HA.out.keep S2.out.below) hi0 hcap hc63).mono ?_
      rintro e w3 ⟨A3, c3, rfl, own, bel⟩
      have S3 := Lib.hid (S2.out.go bel)
      have OWN := Lib.hid (own_base own S2.out.lo)
      clear own bel x2
      go_wp2
      go_ret2
      exact retS_own (labL_length _ _) OWN.out S3.out.below

set_option maxHeartbeats 6400000 in
set_option maxRecDepth 100000 in
theorem iIsTransitiveOn_any {A : Option Addr} {c N : Nat} {xss : List (List Int)} (i : Int) (w : World) (hx : xss.length = N) (ha : RdSS w A xss) (hN : N ≤ 1048576) (hr : ∀ xs ∈ xss, (xs.length : Int) ≤ 1048576) (hcap : N ≤ c) (hc63 : c ≤ 9223372036854775807) :
    Calls Try.prog 73 #[.agg #[.slice A N c], .int .i64 i] w (fun e w' => e = .returned (.tuple #[.bool (trB xss i), .int .i64 (rkC xss i)]) ∧ Below w.heap.size w w') := by
  have HX := Lib.hid hx
  have HA := Lib.hid ha
  have HR := Lib.hid hr
  have st0 := (St.start w).addBlk #[.slice A N c] 27
  have S0 := Lib.hid st0
  have x0 := (st0.blk (i := 0) rfl).cell (i := 0) rfl
  clear st0
  obtain ⟨C, hC⟩ : ∃ C, rkC xss i = C := ⟨_, rfl⟩
  obtain ⟨L, hL⟩ : ∃ L, foR6 xss i = L := ⟨_, rfl⟩
  obtain ⟨V, hV⟩ : ∃ V, trB xss i = V := ⟨_, rfl⟩
  have hVn : C ≠ 0 → V = false := fun h => by rw [← hV, trB, hC, decide_eq_false h]; rfl
  have hVy : C = 0 → L.length ≤ 400 ∧ 0 < L.length ∧ (∀ x ∈ L, 0 ≤ x ∧ x < (L.length : Int)) ∧ (V = decide (grtL L = 1)) ∧ (V = decide (mxL L = 0)) := fun h => by
    rw [h] at hC
    have hm := okMan_iff.1 (fcC_in (y := 0) hC).1
    have hg := fps_grp (i := i.toNat) hm
    have hcp := fcn_pos (i := i.toNat) hm
    have hcl := fcn_le (i := i.toNat) hm
    have h4 := hm.f4
    have hL2 : L = labL (fpsL xss i.toNat) (fcn xss i.toNat) := by rw [← hL, foR6, if_pos hC, foL]
    have hV2 : V = decide ((orbsTo (fpsL xss i.toNat) (fcn xss i.toNat) (fcn xss i.toNat)).length = 1) := by rw [← hV, trB, hC]; simp
    have hll : L.length = fcn xss i.toNat := by rw [hL2, labL_length]
    have hog := (Big.orbsTo_facts hg.big (fcn xss i.toNat) (Nat.le_refl _)).2.2.1
    refine ⟨by omega, by omega, fun x hx => ?_, ?_, ?_⟩
    · rw [hL2] at hx
      have := gl_in hg x hx
      rw [hll]; omega
    · rw [hV2, hL2, gl_grt hg hcp, Bool.eq_iff_iff]; simp; omega
    · rw [hV2, hL2, gl_max hg hcp, Bool.eq_iff_iff]; simp; omega
  rw [hC, hV]
  have HCC := Lib.hid hC
  have HLL := Lib.hid hL
  have HVN := Lib.hid hVn
  have HVY := Lib.hid hVy
  clear hx ha hr hC hL hV hVn hVy
  go_enter Try.func73, Try.ntmps73
  go_wp2_with fail
  refine (iFaceOrbits_any _ _ HX.out (HA.out.keep S0.out.below) hN HR.out hcap hc63).mono ?_
  rintro e w1 ⟨A1, c1, rfl, own, bel⟩
  rw [HLL.out] at own ⊢
  rw [HCC.out]
  have S1 := Lib.hid ((S0.out.addOwn bel own (Nat.le_refl _)))
  clear own bel x0
  by_cases hc0 : C = 0
  · obtain ⟨h1, h2, h3, h4, h5⟩ := HVY.out hc0
    subst hc0
    have H3 := Lib.hid h3
    have H4 := Lib.hid h4
    have H5 := Lib.hid h5
    obtain ⟨l, hl⟩ : ∃ l, L.length = l := ⟨_, rfl⟩
    rw [hl] at S1 h1 h2 ⊢
    have HL3 := Lib.hid hl
    clear h3 h4 h5 hl
    obtain ⟨k, hk⟩ : ∃ k, mxL L = k := ⟨_, rfl⟩
    have HK := Lib.hid hk
    clear hk
    go_wp2_with fail
    refine (max_any _ HL3.out (own_rd (S1.out.own (i := 1) rfl)) h2 (by omega) (fun x hx => (H3.out x hx).1)).mono ?_
    rintro e w5 ⟨rfl, rfl⟩
    rw [HK.out]
    go_wp2
    go_ret2
    have e1 : decide (k = 0) = V := by rw [H5.out, HK.out]
    exact ⟨by rw [← e1]; rfl, S1.out.below⟩
  · have hVf := HVN.out hc0
    subst hVf
    go_wp2
    go_ret2
    exact ⟨rfl, S1.out.below⟩

end Go.Proofs.Ytmgoaabeopnopaa
