import Derived.Test.YtmikoihpmhfafaaAv
import Derived.Test.YtmikoihpmhfafaaL12
import Derived.Test.YtmikoihpmhfafaaL1
namespace Go.Proofs.Ytmikoihpmhfafaa
open Go.RowKit

set_option maxHeartbeats 6400000 in
set_option maxRecDepth 8000 in
theorem law_StabilizerOf {A0 : Option Addr} {c0 : Nat} {x0 : List (List Int)} {n0 : Nat} {k1 : Int} {k2 : Int} (w : World) (hx0 : x0.length = n0) (ha0 : RdSS w A0 x0) (hm0 : n0 ≤ maxLen) (hw1 : (Lit.int .i64 k1).wf = true) (hw2 : (Lit.int .i64 k2).wf = true) :
    Calls Try.prog 19 #[.agg #[.slice A0 n0 c0], .int .i64 k1, .int .i64 k2] w fun e w' => e = .returned (.bool true) ∧ Below w.heap.size w w' := by
  unfold maxLen at hm0
  have HX0 := Lib.hid hx0
  have HA0 := Lib.hid ha0
  clear hx0 ha0
  have HW1 := Lib.hid hw1
  clear hw1
  have HW2 := Lib.hid hw2
  clear hw2
  have st0 := ((St.start w).addBlk #[.slice A0 n0 c0] 68)
  have S0 := Lib.hid (show St w (w.alloc (.cells #[.slice A0 n0 c0] 68)) [.blk (w.heap.size) #[.slice A0 n0 c0] 68] from st0)
  clear st0
  go_enter Try.func19, Try.ntmps19
  have h_a0_0 := (S0.out.blk (i := 0) rfl).cell (i := 0) rfl
  go_wp2_with fail
  clear h_a0_0
  refine (szM_any _ HX0.out (HA0.out.keep S0.out.below) hm0).mono ?_
  rintro e w1 ⟨r, rfl, g0, g1, g2, bel⟩
  have S1 := Lib.hid (show St w w1 [.blk (w.heap.size) #[.slice A0 n0 c0] 68] from S0.out.go bel)
  clear S0
  clear bel
  by_cases hneg : r < 0
  · clear g2
    go_wp2
    go_ret
    exact ⟨rfl, S1.out.below⟩
  have hpr : 0 ≤ r := by omega
  have hqr : r ≤ 1048576 := g1
  have hz := g2 (by omega)
  have hb0 : n0 ≤ 1048576 := by have := hz.1; rw [HX0.out] at this; omega
  have HR0 := Lib.hid hz.2
  clear g2 hz
  have h_a0_0 := (S1.out.blk (i := 0) rfl).cell (i := 0) rfl
  go_wp2_with fail
  clear h_a0_0
  refine (toM_any _ HX0.out (HA0.out.keep S1.out.below) hb0 HR0.out).mono ?_
  rintro e w2 ⟨Aa0_, ca0_, rfl, own, bel⟩
  obtain ⟨vsa0_, st⟩ := S1.out.addRows bel own (Nat.le_refl _) (Nat.le_refl _)
  have S2 := Lib.hid (show St w w2 [.blk (w.heap.size) #[.slice A0 n0 c0] 68, .rows 2 31 Aa0_ (n0) ca0_ vsa0_ (x0)] from st)
  clear S1
  clear st bel own
  have h_a0_0 := (S2.out.blk (i := 0) rfl).cell (i := 0) rfl
  go_wp2_with fail
  clear h_a0_0
  refine (sStabilizerOf_any k1 k2 _ HX0.out (ownSS_rd (S2.out.sep.ownSS (i := 1) rfl)) hb0 HR0.out).mono ?_
  rintro e w3 ⟨Av, cv, rfl, own, bel⟩
  obtain ⟨vsv, st⟩ := S2.out.addRows bel own (Nat.le_refl _) (Nat.le_refl _)
  have S3 := Lib.hid (show St w w3 [.blk (w.heap.size) #[.slice A0 n0 c0] 68, .rows 2 31 Aa0_ (n0) ca0_ vsa0_ (x0), .rows 2 31 Av ((sbR x0 k1 k2).length) cv vsv (sbR x0 k1 k2)] from st)
  clear S2
  clear st bel own
  have S4 := Lib.hid (show St w w3 [.blk (w.heap.size) #[.slice A0 n0 c0] 68, .rows 2 31 Av ((sbR x0 k1 k2).length) cv vsv (sbR x0 k1 k2)] from S3.out.drop 1)
  clear S3
  have h_a0_0 := (S4.out.blk (i := 0) rfl).cell (i := 0) rfl
  go_wp2_with fail
  clear h_a0_0
  refine (toM_any _ HX0.out (HA0.out.keep S4.out.below) hb0 HR0.out).mono ?_
  rintro e w4 ⟨Ay0, cy0, rfl, own, bel⟩
  obtain ⟨vsy0, st⟩ := S4.out.addRows bel own (Nat.le_refl _) (Nat.le_refl _)
  have S5 := Lib.hid (show St w w4 [.blk (w.heap.size) #[.slice A0 n0 c0] 68, .rows 2 31 Av ((sbR x0 k1 k2).length) cv vsv (sbR x0 k1 k2), .rows 2 31 Ay0 (n0) cy0 vsy0 (x0)] from st)
  clear S4
  clear st bel own
  have S6 := Lib.hid (show St w (w4.alloc (.cells #[.slice Ay0 n0 cy0] 26)) [.blk (w.heap.size) #[.slice A0 n0 c0] 68, .rows 2 31 Av ((sbR x0 k1 k2).length) cv vsv (sbR x0 k1 k2), .rows 2 31 Ay0 (n0) cy0 vsy0 (x0), .blk w4.heap.size #[.slice Ay0 n0 cy0] 26] from S5.out.addBlk #[.slice Ay0 n0 cy0] 26)
  clear S5
  have h_a0_0 := (S6.out.blk (i := 0) rfl).cell (i := 0) rfl
  have h_x0_0 := (S6.out.blk (i := 3) rfl).cell (i := 0) rfl
  go_wp2_with fail
  clear h_a0_0 h_x0_0
  refine (iStabilizerOf_any k1 k2 _ HX0.out (ownSS_rd (S6.out.sep.ownSS (i := 2) rfl)) hb0 HR0.out (ownSS_cap (S6.out.sep.ownSS (i := 2) rfl)).1 (ownSS_cap (S6.out.sep.ownSS (i := 2) rfl)).2).mono ?_
  rintro e w5 ⟨Ag, cg, rfl, own, bel⟩
  obtain ⟨vsg, st⟩ := S6.out.addRows bel own (Nat.le_refl _) (Nat.le_refl _)
  have S7 := Lib.hid (show St w w5 [.blk (w.heap.size) #[.slice A0 n0 c0] 68, .rows 2 31 Av ((sbR x0 k1 k2).length) cv vsv (sbR x0 k1 k2), .rows 2 31 Ay0 (n0) cy0 vsy0 (x0), .blk w4.heap.size #[.slice Ay0 n0 cy0] 26, .rows 2 31 Ag ((sbR x0 k1 k2).length) cg vsg (sbR x0 k1 k2)] from st)
  clear S6
  clear st bel own
  have hlen : (sbR x0 k1 k2).length ≤ 1048576 := (sbR_le _ _ _).1
  have HROW := Lib.hid (show ∀ xs ∈ sbR x0 k1 k2, (xs.length : Int) ≤ 1048576 from (sbR_le _ _ _).2)
  have htot := totalL_le HROW.out (sbR x0 k1 k2).length
  rw [List.take_length] at htot
  have h_a0_0 := (S7.out.blk (i := 0) rfl).cell (i := 0) rfl
  have h_x0_0 := (S7.out.blk (i := 3) rfl).cell (i := 0) rfl
  go_wp2_with fail
  clear h_a0_0 h_x0_0
  refine (eqSS_same _ rfl rfl (ownSS_rd (S7.out.sep.ownSS (i := 4) rfl)) (ownSS_rd (S7.out.sep.ownSS (i := 1) rfl)) (by omega)).mono ?_
  rintro e w6 ⟨rfl, bel⟩
  have S8 := Lib.hid (show St w w6 [.blk (w.heap.size) #[.slice A0 n0 c0] 68, .rows 2 31 Av ((sbR x0 k1 k2).length) cv vsv (sbR x0 k1 k2), .rows 2 31 Ay0 (n0) cy0 vsy0 (x0), .blk w4.heap.size #[.slice Ay0 n0 cy0] 26, .rows 2 31 Ag ((sbR x0 k1 k2).length) cg vsg (sbR x0 k1 k2)] from S7.out.go bel)
  clear S7
  clear bel
  have HAK := Lib.hid (HA0.out.keep S8.out.below)
  have HOK := Lib.hid (ownSS_rd (S8.out.sep.ownSS (i := 2) rfl))
  have h_a0_0 := (S8.out.blk (i := 0) rfl).cell (i := 0) rfl
  have h_x0_0 := (S8.out.blk (i := 3) rfl).cell (i := 0) rfl
  go_wp2_with fail
  go_region_held3 (fun w' => Below w6.heap.size w6 w' ∧ w'.cell? ⟨w.heap.size, 0, none⟩ = some (.slice A0 n0 c0) ∧ w'.cell? ⟨w4.heap.size, 0, none⟩ = some (.slice Ay0 n0 cy0)) (first | (exact ⟨below_drewN (Below.refl _ _) 1, h_a0_0, h_x0_0⟩) | (exact q))
    (first
      | (go_at_call 74
         refine (toM_any _ HX0.out (rd_s3 HAK.out (by assumption)) hb0 HR0.out).mono ?_
         rintro e wc ⟨A6, c6, rfl, own, bel⟩
         have q := s3_go (by assumption) bel)
      | (go_at_call 76
         refine (eqM_same _ HX0.out HX0.out (rd_s3 HOK.out (by assumption)) (ownSS_rd own) (by omega)).mono ?_
         rintro e w7 ⟨rfl, bel2⟩
         have q := s3_go (by assumption) bel2))
  clear h_a0_0 h_x0_0
  have S9 := Lib.hid (show St w w7 [.blk (w.heap.size) #[.slice A0 n0 c0] 68, .rows 2 31 Av ((sbR x0 k1 k2).length) cv vsv (sbR x0 k1 k2), .rows 2 31 Ay0 (n0) cy0 vsy0 (x0), .blk w4.heap.size #[.slice Ay0 n0 cy0] 26, .rows 2 31 Ag ((sbR x0 k1 k2).length) cg vsg (sbR x0 k1 k2)] from S8.out.go q.1)
  clear S8
  clear HAK HOK q own
  have ht0 := totalL_le HR0.out x0.length
  rw [List.take_length, HX0.out] at ht0
  have h_a0_0 := (S9.out.blk (i := 0) rfl).cell (i := 0) rfl
  have h_x0_0 := (S9.out.blk (i := 3) rfl).cell (i := 0) rfl
  go_wp2_with fail
  clear h_a0_0 h_x0_0
  refine (markM_st (1) _ S9.out (i := 2) rfl (by decide) hb0 HR0.out (by omega) (by omega)).mono ?_
  rintro e w8 ⟨rfl, st⟩
  have S10 := Lib.hid (show St w w8 [.blk (w.heap.size) #[.slice A0 n0 c0] 68, .rows 2 31 Av ((sbR x0 k1 k2).length) cv vsv (sbR x0 k1 k2), .rows 2 31 Ay0 (n0) cy0 vsy0 (marksSS (1) x0), .blk w4.heap.size #[.slice Ay0 n0 cy0] 26, .rows 2 31 Ag ((sbR x0 k1 k2).length) cg vsg (sbR x0 k1 k2)] from st)
  clear S9
  clear st
  have h_a0_0 := (S10.out.blk (i := 0) rfl).cell (i := 0) rfl
  have h_x0_0 := (S10.out.blk (i := 3) rfl).cell (i := 0) rfl
  go_wp2_with fail
  clear h_a0_0 h_x0_0
  refine (eqSS_same _ rfl rfl (ownSS_rd (S10.out.sep.ownSS (i := 4) rfl)) (ownSS_rd (S10.out.sep.ownSS (i := 1) rfl)) (by omega)).mono ?_
  rintro e w9 ⟨rfl, bel⟩
  have S11 := Lib.hid (show St w w9 [.blk (w.heap.size) #[.slice A0 n0 c0] 68, .rows 2 31 Av ((sbR x0 k1 k2).length) cv vsv (sbR x0 k1 k2), .rows 2 31 Ay0 (n0) cy0 vsy0 (marksSS (1) x0), .blk w4.heap.size #[.slice Ay0 n0 cy0] 26, .rows 2 31 Ag ((sbR x0 k1 k2).length) cg vsg (sbR x0 k1 k2)] from S10.out.go bel)
  clear S10
  clear bel
  have h_a0_0 := (S11.out.blk (i := 0) rfl).cell (i := 0) rfl
  have h_x0_0 := (S11.out.blk (i := 3) rfl).cell (i := 0) rfl
  go_wp2_with fail
  clear h_a0_0 h_x0_0
  refine (markSS_st 1 _ S11.out (i := 4) rfl (by decide) hlen HROW.out (by omega) (by omega)).mono ?_
  rintro e w10 ⟨rfl, st⟩
  have S12 := Lib.hid (show St w w10 [.blk (w.heap.size) #[.slice A0 n0 c0] 68, .rows 2 31 Av ((sbR x0 k1 k2).length) cv vsv (sbR x0 k1 k2), .rows 2 31 Ay0 (n0) cy0 vsy0 (marksSS (1) x0), .blk w4.heap.size #[.slice Ay0 n0 cy0] 26, .rows 2 31 Ag ((sbR x0 k1 k2).length) cg vsg (marksSS 1 (sbR x0 k1 k2))] from st)
  clear S11
  clear st
  have h_a0_0 := (S12.out.blk (i := 0) rfl).cell (i := 0) rfl
  have h_x0_0 := (S12.out.blk (i := 3) rfl).cell (i := 0) rfl
  go_wp2_with fail
  clear h_a0_0 h_x0_0
  refine (heldSS_any 1 _ rfl (ownSS_rd (S12.out.sep.ownSS (i := 4) rfl)) hlen HROW.out (by omega) (by omega)).mono ?_
  rintro e wz ⟨rfl, rfl⟩
  have h_a0_0 := (S12.out.blk (i := 0) rfl).cell (i := 0) rfl
  have h_x0_0 := (S12.out.blk (i := 3) rfl).cell (i := 0) rfl
  go_wp2_with fail
  clear h_a0_0 h_x0_0
  refine (toM_any _ HX0.out (HA0.out.keep S12.out.below) hb0 HR0.out).mono ?_
  rintro e w11 ⟨Ab0_, cb0_, rfl, own, bel⟩
  obtain ⟨vsb0_, st⟩ := S12.out.addRows bel own (Nat.le_refl _) (Nat.le_refl _)
  have S13 := Lib.hid (show St w w11 [.blk (w.heap.size) #[.slice A0 n0 c0] 68, .rows 2 31 Av ((sbR x0 k1 k2).length) cv vsv (sbR x0 k1 k2), .rows 2 31 Ay0 (n0) cy0 vsy0 (marksSS (1) x0), .blk w4.heap.size #[.slice Ay0 n0 cy0] 26, .rows 2 31 Ag ((sbR x0 k1 k2).length) cg vsg (marksSS 1 (sbR x0 k1 k2)), .rows 2 31 Ab0_ (n0) cb0_ vsb0_ (x0)] from st)
  clear S12
  clear st bel own
  have h_a0_0 := (S13.out.blk (i := 0) rfl).cell (i := 0) rfl
  have h_x0_0 := (S13.out.blk (i := 3) rfl).cell (i := 0) rfl
  go_wp2_with fail
  clear h_a0_0 h_x0_0
  refine (iStabilizerOf_any k1 k2 _ HX0.out (ownSS_rd (S13.out.sep.ownSS (i := 5) rfl)) hb0 HR0.out (ownSS_cap (S13.out.sep.ownSS (i := 5) rfl)).1 (ownSS_cap (S13.out.sep.ownSS (i := 5) rfl)).2).mono ?_
  rintro e w12 ⟨Ah, ch, rfl, own, bel⟩
  obtain ⟨vsh, st⟩ := S13.out.addRows bel own (Nat.le_refl _) (Nat.le_refl _)
  have S14 := Lib.hid (show St w w12 [.blk (w.heap.size) #[.slice A0 n0 c0] 68, .rows 2 31 Av ((sbR x0 k1 k2).length) cv vsv (sbR x0 k1 k2), .rows 2 31 Ay0 (n0) cy0 vsy0 (marksSS (1) x0), .blk w4.heap.size #[.slice Ay0 n0 cy0] 26, .rows 2 31 Ag ((sbR x0 k1 k2).length) cg vsg (marksSS 1 (sbR x0 k1 k2)), .rows 2 31 Ab0_ (n0) cb0_ vsb0_ (x0), .rows 2 31 Ah ((sbR x0 k1 k2).length) ch vsh (sbR x0 k1 k2)] from st)
  clear S13
  clear st bel own
  have S15 := Lib.hid (show St w w12 [.blk (w.heap.size) #[.slice A0 n0 c0] 68, .rows 2 31 Av ((sbR x0 k1 k2).length) cv vsv (sbR x0 k1 k2), .rows 2 31 Ay0 (n0) cy0 vsy0 (marksSS (1) x0), .blk w4.heap.size #[.slice Ay0 n0 cy0] 26, .rows 2 31 Ag ((sbR x0 k1 k2).length) cg vsg (marksSS 1 (sbR x0 k1 k2)), .rows 2 31 Ah ((sbR x0 k1 k2).length) ch vsh (sbR x0 k1 k2)] from S14.out.drop 5)
  clear S14
  have h_a0_0 := (S15.out.blk (i := 0) rfl).cell (i := 0) rfl
  have h_x0_0 := (S15.out.blk (i := 3) rfl).cell (i := 0) rfl
  go_wp2_with fail
  clear h_a0_0 h_x0_0
  refine (eqSS_same _ rfl rfl (ownSS_rd (S15.out.sep.ownSS (i := 5) rfl)) (ownSS_rd (S15.out.sep.ownSS (i := 1) rfl)) (by omega)).mono ?_
  rintro e w13 ⟨rfl, bel⟩
  have S16 := Lib.hid (show St w w13 [.blk (w.heap.size) #[.slice A0 n0 c0] 68, .rows 2 31 Av ((sbR x0 k1 k2).length) cv vsv (sbR x0 k1 k2), .rows 2 31 Ay0 (n0) cy0 vsy0 (marksSS (1) x0), .blk w4.heap.size #[.slice Ay0 n0 cy0] 26, .rows 2 31 Ag ((sbR x0 k1 k2).length) cg vsg (marksSS 1 (sbR x0 k1 k2)), .rows 2 31 Ah ((sbR x0 k1 k2).length) ch vsh (sbR x0 k1 k2)] from S15.out.go bel)
  clear S15
  clear bel
  have h_a0_0 := (S16.out.blk (i := 0) rfl).cell (i := 0) rfl
  have h_x0_0 := (S16.out.blk (i := 3) rfl).cell (i := 0) rfl
  go_wp2_with fail
  clear h_a0_0 h_x0_0
  refine (heldSS_any 1 _ rfl (ownSS_rd (S16.out.sep.ownSS (i := 4) rfl)) hlen HROW.out (by omega) (by omega)).mono ?_
  rintro e wz ⟨rfl, rfl⟩
  have h_a0_0 := (S16.out.blk (i := 0) rfl).cell (i := 0) rfl
  have h_x0_0 := (S16.out.blk (i := 3) rfl).cell (i := 0) rfl
  go_wp2
  go_ret
  exact ⟨rfl, S16.out.below⟩

theorem walk_FnExactStabilizerOf (a0 : Option Addr) (len0 cap0 : Nat) (z0 : List (List Int)) (a1 : Int) (a2 : Int) (w : World) (w0 : IsRows w a0 len0 z0) (w1 : (Lit.int .i64 a1).wf = true) (w2 : (Lit.int .i64 a2).wf = true) :
    Calls Try.prog 19 #[.agg #[.slice a0 len0 cap0], .int .i64 a1, .int .i64 a2] w fun e w' => e = .returned (.bool true) ∧ Below w.heap.size w w' := by
  obtain ⟨hx0, ha0, hm0⟩ := w0
  exact law_StabilizerOf w hx0 ha0 hm0 w1 w2
end Go.Proofs.Ytmikoihpmhfafaa
