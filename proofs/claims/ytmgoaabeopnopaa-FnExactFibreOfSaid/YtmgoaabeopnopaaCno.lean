/- impl.covering.isNormal. -/
import Derived.Test.YtmgoaabeopnopaaC3
namespace Go.Proofs.Ytmgoaabeopnopaa
open Go.RowKit

/-- Whether there are as many deck moves as flags in a fibre. -/
noncomputable def nb7 (xss : List (List Int)) (L : List Int) : Bool := (((dkL7 xss L).length : Int) == ((fibL7 L (fz L 0)).length : Int))

set_option maxHeartbeats 25600000 in
set_option maxRecDepth 8000 in
theorem iNormal_any {AL A A1 : Option Addr} {nL cL N c k c1 : Nat} {xss : List (List Int)} {L : List Int} (w : World) (hm : okMan xss = true) (hx : xss.length = N) (ha : RdSS w A xss) (hl : L.length = nL) (hL : Rd w AL (ints L)) (hln : nL = flN xss) :
    Calls Try.prog 103 #[.agg #[.slice AL nL cL, .slice A N c, .slice A1 k c1]] w fun e w' => e = .returned (.bool (nb7 xss L)) ∧ Below w.heap.size w w' := by
  have hn4 := (okMan_iff.1 hm).f4
  have hn2 := (okMan_iff.1 hm).f2
  have hnL : nL ≤ 400 := by omega
  have hnp : 0 < nL := by omega
  obtain ⟨bl, ol, y, hAL, hgy, hcy⟩ := hL.int (k := 0) (by omega)
  subst hAL
  rw [Nat.add_zero] at hcy
  have hy0 : fz L 0 = y := fz_at hgy
  obtain ⟨r, hr⟩ : ∃ r, nb7 xss L = r := ⟨_, rfl⟩
  obtain ⟨D, hD⟩ : ∃ D, dkL7 xss L = D := ⟨_, rfl⟩
  obtain ⟨F, hF⟩ : ∃ F, fibL7 L y = F := ⟨_, rfl⟩
  have HNB := Lib.hid (show ((D.length : Int) == (F.length : Int)) = r from by rw [← hr, nb7, hD, hy0, hF])
  rw [hr]
  have HX := Lib.hid hx
  have HA := Lib.hid ha
  have HL := Lib.hid hL
  have HLL := Lib.hid hl
  have HM := Lib.hid hm
  have HCY := Lib.hid hcy
  have HD := Lib.hid hD
  have HF := Lib.hid hF
  have HLN := Lib.hid hln
  have st0 := (St.start w).addBlk #[.slice (some ⟨bl, ol, none⟩) nL cL, .slice A N c, .slice A1 k c1] 88
  have S0 := Lib.hid (st0.go (below_drewN (Below.refl _ _) 1))
  have x0 := (st0.blk (i := 0) rfl).cell (i := 0) rfl
  have y0 := (st0.blk (i := 0) rfl).cell (i := 1) rfl
  have z0 := (st0.blk (i := 0) rfl).cell (i := 2) rfl
  have hc1 := cell_be HCY.out st0.below
  clear st0 hx ha hL hl hm hcy hD hF hr hgy hy0 hln hn2 hn4
  go_enter Try.func103, Try.ntmps103
  go_wp2
  go_region_law ((first
    | (go_simp; go_at_call 102
       refine (iDeck_any _ HM.out HX.out (HA.out.keep S0.out.below) HLL.out (HL.out.keep S0.out.below) HLN.out).mono ?_
       rintro e w1 ⟨A2, m2, c2, rfl, hm2, own, bel⟩
       rw [HD.out] at hm2
       have S1 := Lib.hid (S0.out.go bel)
       have x1 := (S1.out.blk (i := 0) rfl).cell (i := 0) rfl
       have hc2 := cell_be HCY.out S1.out.below
       have HM2 := Lib.hid hm2
       clear bel own hm2)
    | (go_simp; go_at_call 100
       refine (iFib_any y _ HLL.out (HL.out.keep S1.out.below) (by omega)).mono ?_
       rintro e w2 ⟨A3, m3, c3, rfl, hm3, own, bel⟩
       rw [HF.out] at hm3
       have S2 := Lib.hid (S1.out.go bel)
       have hnb := HNB.out
       rw [HM2.out, hm3] at hnb
       clear bel own hm3)))
  all_goals
    go_wp2
    go_ret
    exact ⟨rfl, S2.out.below⟩
end Go.Proofs.Ytmgoaabeopnopaa
