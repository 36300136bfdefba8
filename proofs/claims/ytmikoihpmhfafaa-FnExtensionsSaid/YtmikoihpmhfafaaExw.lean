/- spec.ExtendManiplex, ExtendInside (written by gexw.py). -/
import Derived.Test.YtmikoihpmhfafaaExt
namespace Go.Proofs.Ytmikoihpmhfafaa
open Go.RowKit

set_option maxHeartbeats 1600000 in
set_option maxRecDepth 8000 in
theorem sExtendManiplex_any {A : Option Addr} {c N : Nat} {xss : List (List Int)} (w : World) (hx : xss.length = N) (ha : RdSS w A xss) (hN : N ≤ 1048576) (hr : ∀ xs ∈ xss, (xs.length : Int) ≤ 1048576) :
    Calls Try.prog 25 #[.agg #[.slice A N c]] w (RetMC w (exR false xss) (exC xss)) := by
  have HX := Lib.hid hx
  have HA := Lib.hid ha
  have HR := Lib.hid hr
  have st0 := ((St.start w).addBlk #[.slice A N c] 26).addBlk #[.slice none 0 0] 26
  simp at st0
  have S0 := Lib.hid st0
  have hbc := (st0.blk (i := 0) rfl).cell (i := 0) rfl
  clear st0
  obtain ⟨L, hL⟩ : ∃ L, exR false xss = L := ⟨_, rfl⟩
  obtain ⟨C, hC⟩ : ∃ C, exC xss = C := ⟨_, rfl⟩
  rw [hL, hC]
  obtain ⟨k, hk⟩ : ∃ k, L.length = k := ⟨_, rfl⟩
  have HL := Lib.hid hL
  have HC := Lib.hid hC
  have HK := Lib.hid hk
  clear hx ha hr hL hC hk
  go_enter Try.func25, Try.ntmps25
  go_wp2_with fail
  refine (sext_any false _ HX.out (HA.out.keep S0.out.below) hN HR.out).mono ?_
  rintro e w1 ⟨A1, c1, rfl, own, bel⟩
  rw [HL.out, HK.out] at own
  rw [HL.out, HC.out, HK.out]
  obtain ⟨vals, st⟩ := S0.out.addRows bel own (Nat.le_refl _) (Nat.le_refl _)
  have st1 := st.addBlk #[.slice A1 k c1] 26
  have z0 := (st1.blk (i := 1) rfl).cell (i := 0) rfl
  have f0 := (st1.blk (i := 1) rfl).free 0
  have x0 := (st1.blk (i := 3) rfl).cell (i := 0) rfl
  have S1 := Lib.hid st1
  clear st st1 hbc own bel
  go_wp2
  have st4 := S1.out.blkSet (i := 1) rfl 0 (.slice A1 k c1)
  have y0 := (st4.blk (i := 1) rfl).cell (i := 0) rfl
  refine bodyPost_ret (v := .tuple #[.agg #[.slice A1 k c1], .int .i64 C]) (by simp [results, Try.results25, go_sem, y0]) rfl ⟨A1, c1, by rw [HK.out], ?_, st4.below⟩
  rw [HK.out]
  exact st4.sep.ownSS (i := 2) rfl

end Go.Proofs.Ytmikoihpmhfafaa
