import Derived.Test.YtmgoaabeopnopaaC6
import Derived.Test.YtmgoaabeopnopaaL12
import Derived.Test.YtmgoaabeopnopaaL1
namespace Go.Proofs.Ytmgoaabeopnopaa
open Go.RowKit

set_option maxHeartbeats 6400000 in
set_option maxRecDepth 8000 in
theorem law_DoubleCover {A0 : Option Addr} {c0 : Nat} {x0 : List (List Int)} {n0 : Nat} (w : World) (hx0 : x0.length = n0) (ha0 : RdSS w A0 x0) (hm0 : n0 ≤ maxLen) :
    Calls Try.prog 10 #[.agg #[.slice A0 n0 c0]] w fun e w' => e = .returned (.bool true) ∧ Below w.heap.size w w' := by
  unfold maxLen at hm0
  have HX0 := Lib.hid hx0
  have HA0 := Lib.hid ha0
  clear hx0 ha0
  have st0 := ((St.start w).addBlk #[.slice A0 n0 c0] 24)
  have S0 := Lib.hid (show St w (w.alloc (.cells #[.slice A0 n0 c0] 24)) [.blk (w.heap.size) #[.slice A0 n0 c0] 24] from st0)
  clear st0
  go_enter Try.func10, Try.ntmps10
  have h_a0_0 := (S0.out.blk (i := 0) rfl).cell (i := 0) rfl
  go_wp2_with fail
  clear h_a0_0
  refine (szM_any _ HX0.out (HA0.out.keep S0.out.below) hm0).mono ?_
  rintro e w1 ⟨r, rfl, g0, g1, g2, bel⟩
  have S1 := Lib.hid (show St w w1 [.blk (w.heap.size) #[.slice A0 n0 c0] 24] from S0.out.go bel)
  clear S0
  clear bel
  by_cases hneg : r < 0
  · clear g2
    go_wp2
    go_ret
    exact ⟨rfl, S1.out.below⟩
  have hpr : 0 ≤ r := by omega
  have hqr : r ≤ 1048576 := g1
  have hz := g2 (by omega)
  have hb0 : n0 ≤ 1048576 := by have := hz.1; rw [HX0.out] at this; omega
  have HR0 := Lib.hid hz.2
  clear g2 hz
  have h_a0_0 := (S1.out.blk (i := 0) rfl).cell (i := 0) rfl
  go_wp2_with fail
  clear h_a0_0
  refine (toM_any _ HX0.out (HA0.out.keep S1.out.below) hb0 HR0.out).mono ?_
  rintro e w2 ⟨Aa0_, ca0_, rfl, own, bel⟩
  obtain ⟨vsa0_, st⟩ := S1.out.addRows bel own (Nat.le_refl _) (Nat.le_refl _)
  have S2 := Lib.hid (show St w w2 [.blk (w.heap.size) #[.slice A0 n0 c0] 24, .rows 2 36 Aa0_ (n0) ca0_ vsa0_ (x0)] from st)
  clear S1
  clear st bel own
  have h_a0_0 := (S2.out.blk (i := 0) rfl).cell (i := 0) rfl
  go_wp2_with fail
  clear h_a0_0
  refine (sDoubleCover_any _ HX0.out (ownSS_rd (S2.out.sep.ownSS (i := 1) rfl)) hb0 HR0.out).mono ?_
  rintro e w3 ⟨Av, cv, rfl, own, bel⟩
  obtain ⟨vsv, st⟩ := S2.out.addRows bel own (Nat.le_refl _) (Nat.le_refl _)
  have S3 := Lib.hid (show St w w3 [.blk (w.heap.size) #[.slice A0 n0 c0] 24, .rows 2 36 Aa0_ (n0) ca0_ vsa0_ (x0), .rows 2 36 Av ((dcR7 x0).length) cv vsv (dcR7 x0)] from st)
  clear S2
  clear st bel own
  have S4 := Lib.hid (show St w (w3.alloc (.cells #[.slice Av (dcR7 x0).length cv] 27)) [.blk (w.heap.size) #[.slice A0 n0 c0] 24, .rows 2 36 Aa0_ (n0) ca0_ vsa0_ (x0), .rows 2 36 Av ((dcR7 x0).length) cv vsv (dcR7 x0), .blk w3.heap.size #[.slice Av (dcR7 x0).length cv] 27] from S3.out.addBlk #[.slice Av (dcR7 x0).length cv] 27)
  clear S3
  have S5 := Lib.hid (show St w (w3.alloc (.cells #[.slice Av (dcR7 x0).length cv] 27)) [.blk (w.heap.size) #[.slice A0 n0 c0] 24, .rows 2 36 Av ((dcR7 x0).length) cv vsv (dcR7 x0), .blk w3.heap.size #[.slice Av (dcR7 x0).length cv] 27] from S4.out.drop 1)
  clear S4
  have h_a0_0 := (S5.out.blk (i := 0) rfl).cell (i := 0) rfl
  have h_qv_0 := (S5.out.blk (i := 2) rfl).cell (i := 0) rfl
  go_wp2_with fail
  clear h_a0_0 h_qv_0
  refine (toM_any _ HX0.out (HA0.out.keep S5.out.below) hb0 HR0.out).mono ?_
  rintro e w4 ⟨Ay0, cy0, rfl, own, bel⟩
  obtain ⟨vsy0, st⟩ := S5.out.addRows bel own (Nat.le_refl _) (Nat.le_refl _)
  have S6 := Lib.hid (show St w w4 [.blk (w.heap.size) #[.slice A0 n0 c0] 24, .rows 2 36 Av ((dcR7 x0).length) cv vsv (dcR7 x0), .blk w3.heap.size #[.slice Av (dcR7 x0).length cv] 27, .rows 2 36 Ay0 (n0) cy0 vsy0 (x0)] from st)
  clear S5
  clear st bel own
  have S7 := Lib.hid (show St w (w4.alloc (.cells #[.slice Ay0 n0 cy0] 27)) [.blk (w.heap.size) #[.slice A0 n0 c0] 24, .rows 2 36 Av ((dcR7 x0).length) cv vsv (dcR7 x0), .blk w3.heap.size #[.slice Av (dcR7 x0).length cv] 27, .rows 2 36 Ay0 (n0) cy0 vsy0 (x0), .blk w4.heap.size #[.slice Ay0 n0 cy0] 27] from S6.out.addBlk #[.slice Ay0 n0 cy0] 27)
  clear S6
  have h_a0_0 := (S7.out.blk (i := 0) rfl).cell (i := 0) rfl
  have h_qv_0 := (S7.out.blk (i := 2) rfl).cell (i := 0) rfl
  have h_x0_0 := (S7.out.blk (i := 4) rfl).cell (i := 0) rfl
  go_wp2_with fail
  clear h_a0_0 h_qv_0 h_x0_0
  refine (iDoubleCover_any _ HX0.out (ownSS_rd (S7.out.sep.ownSS (i := 3) rfl)) hb0 HR0.out).mono ?_
  rintro e w5 ⟨Ag, cg, rfl, own, bel⟩
  obtain ⟨vsg, st⟩ := S7.out.addRows bel own (Nat.le_refl _) (Nat.le_refl _)
  have S8 := Lib.hid (show St w w5 [.blk (w.heap.size) #[.slice A0 n0 c0] 24, .rows 2 36 Av ((dcR7 x0).length) cv vsv (dcR7 x0), .blk w3.heap.size #[.slice Av (dcR7 x0).length cv] 27, .rows 2 36 Ay0 (n0) cy0 vsy0 (x0), .blk w4.heap.size #[.slice Ay0 n0 cy0] 27, .rows 2 36 Ag ((dcR7 x0).length) cg vsg (dcR7 x0)] from st)
  clear S7
  clear st bel own
  have S9 := Lib.hid (show St w (w5.alloc (.cells #[.slice Ag (dcR7 x0).length cg] 27)) [.blk (w.heap.size) #[.slice A0 n0 c0] 24, .rows 2 36 Av ((dcR7 x0).length) cv vsv (dcR7 x0), .blk w3.heap.size #[.slice Av (dcR7 x0).length cv] 27, .rows 2 36 Ay0 (n0) cy0 vsy0 (x0), .blk w4.heap.size #[.slice Ay0 n0 cy0] 27, .rows 2 36 Ag ((dcR7 x0).length) cg vsg (dcR7 x0), .blk w5.heap.size #[.slice Ag (dcR7 x0).length cg] 27] from S8.out.addBlk #[.slice Ag (dcR7 x0).length cg] 27)
  clear S8
  have hlen : (dcR7 x0).length ≤ 1048576 := (dcR7_le _).1
  have HROW := Lib.hid (show ∀ xs ∈ dcR7 x0, (xs.length : Int) ≤ 1048576 from (dcR7_le _).2)
  have htot := totalL_le HROW.out (dcR7 x0).length
  rw [List.take_length] at htot
  have h_a0_0 := (S9.out.blk (i := 0) rfl).cell (i := 0) rfl
  have h_qv_0 := (S9.out.blk (i := 2) rfl).cell (i := 0) rfl
  have h_x0_0 := (S9.out.blk (i := 4) rfl).cell (i := 0) rfl
  have h_qg_0 := (S9.out.blk (i := 6) rfl).cell (i := 0) rfl
  go_wp2_with fail
  clear h_a0_0 h_qv_0 h_x0_0 h_qg_0
  refine (eqM_same _ rfl rfl (ownSS_rd (S9.out.sep.ownSS (i := 5) rfl)) (ownSS_rd (S9.out.sep.ownSS (i := 1) rfl)) (by omega)).mono ?_
  rintro e w6 ⟨rfl, bel⟩
  have S10 := Lib.hid (show St w w6 [.blk (w.heap.size) #[.slice A0 n0 c0] 24, .rows 2 36 Av ((dcR7 x0).length) cv vsv (dcR7 x0), .blk w3.heap.size #[.slice Av (dcR7 x0).length cv] 27, .rows 2 36 Ay0 (n0) cy0 vsy0 (x0), .blk w4.heap.size #[.slice Ay0 n0 cy0] 27, .rows 2 36 Ag ((dcR7 x0).length) cg vsg (dcR7 x0), .blk w5.heap.size #[.slice Ag (dcR7 x0).length cg] 27] from S9.out.go bel)
  clear S9
  clear bel
  have HAK := Lib.hid (HA0.out.keep S10.out.below)
  have HOK := Lib.hid (ownSS_rd (S10.out.sep.ownSS (i := 3) rfl))
  have h_a0_0 := (S10.out.blk (i := 0) rfl).cell (i := 0) rfl
  have h_qv_0 := (S10.out.blk (i := 2) rfl).cell (i := 0) rfl
  have h_x0_0 := (S10.out.blk (i := 4) rfl).cell (i := 0) rfl
  have h_qg_0 := (S10.out.blk (i := 6) rfl).cell (i := 0) rfl
  go_wp2_with fail
  go_region_held3 (fun w' => Below w6.heap.size w6 w' ∧ w'.cell? ⟨w.heap.size, 0, none⟩ = some (.slice A0 n0 c0) ∧ w'.cell? ⟨w4.heap.size, 0, none⟩ = some (.slice Ay0 n0 cy0)) (first | (exact ⟨below_drewN (Below.refl _ _) 1, h_a0_0, h_x0_0⟩) | (exact q))
    (first
      | (go_at_call 19
         refine (toM_any _ HX0.out (rd_s3 HAK.out (by assumption)) hb0 HR0.out).mono ?_
         rintro e wc ⟨A6, c6, rfl, own, bel⟩
         have q := s3_go (by assumption) bel)
      | (go_at_call 22
         refine (eqM_same _ HX0.out HX0.out (rd_s3 HOK.out (by assumption)) (ownSS_rd own) (by omega)).mono ?_
         rintro e w7 ⟨rfl, bel2⟩
         have q := s3_go (by assumption) bel2))
  clear h_a0_0 h_qv_0 h_x0_0 h_qg_0
  have S11 := Lib.hid (show St w w7 [.blk (w.heap.size) #[.slice A0 n0 c0] 24, .rows 2 36 Av ((dcR7 x0).length) cv vsv (dcR7 x0), .blk w3.heap.size #[.slice Av (dcR7 x0).length cv] 27, .rows 2 36 Ay0 (n0) cy0 vsy0 (x0), .blk w4.heap.size #[.slice Ay0 n0 cy0] 27, .rows 2 36 Ag ((dcR7 x0).length) cg vsg (dcR7 x0), .blk w5.heap.size #[.slice Ag (dcR7 x0).length cg] 27] from S10.out.go q.1)
  clear S10
  clear HAK HOK q own
  have ht0 := totalL_le HR0.out x0.length
  rw [List.take_length, HX0.out] at ht0
  have h_a0_0 := (S11.out.blk (i := 0) rfl).cell (i := 0) rfl
  have h_qv_0 := (S11.out.blk (i := 2) rfl).cell (i := 0) rfl
  have h_x0_0 := (S11.out.blk (i := 4) rfl).cell (i := 0) rfl
  have h_qg_0 := (S11.out.blk (i := 6) rfl).cell (i := 0) rfl
  go_wp2_with fail
  clear h_a0_0 h_qv_0 h_x0_0 h_qg_0
  refine (markM_st (1) _ S11.out (i := 3) rfl (by decide) hb0 HR0.out (by omega) (by omega)).mono ?_
  rintro e w8 ⟨rfl, st⟩
  have S12 := Lib.hid (show St w w8 [.blk (w.heap.size) #[.slice A0 n0 c0] 24, .rows 2 36 Av ((dcR7 x0).length) cv vsv (dcR7 x0), .blk w3.heap.size #[.slice Av (dcR7 x0).length cv] 27, .rows 2 36 Ay0 (n0) cy0 vsy0 (marksSS (1) x0), .blk w4.heap.size #[.slice Ay0 n0 cy0] 27, .rows 2 36 Ag ((dcR7 x0).length) cg vsg (dcR7 x0), .blk w5.heap.size #[.slice Ag (dcR7 x0).length cg] 27] from st)
  clear S11
  clear st
  have h_a0_0 := (S12.out.blk (i := 0) rfl).cell (i := 0) rfl
  have h_qv_0 := (S12.out.blk (i := 2) rfl).cell (i := 0) rfl
  have h_x0_0 := (S12.out.blk (i := 4) rfl).cell (i := 0) rfl
  have h_qg_0 := (S12.out.blk (i := 6) rfl).cell (i := 0) rfl
  go_wp2_with fail
  clear h_a0_0 h_qv_0 h_x0_0 h_qg_0
  refine (eqM_same _ rfl rfl (ownSS_rd (S12.out.sep.ownSS (i := 5) rfl)) (ownSS_rd (S12.out.sep.ownSS (i := 1) rfl)) (by omega)).mono ?_
  rintro e w9 ⟨rfl, bel⟩
  have S13 := Lib.hid (show St w w9 [.blk (w.heap.size) #[.slice A0 n0 c0] 24, .rows 2 36 Av ((dcR7 x0).length) cv vsv (dcR7 x0), .blk w3.heap.size #[.slice Av (dcR7 x0).length cv] 27, .rows 2 36 Ay0 (n0) cy0 vsy0 (marksSS (1) x0), .blk w4.heap.size #[.slice Ay0 n0 cy0] 27, .rows 2 36 Ag ((dcR7 x0).length) cg vsg (dcR7 x0), .blk w5.heap.size #[.slice Ag (dcR7 x0).length cg] 27] from S12.out.go bel)
  clear S12
  clear bel
  have h_a0_0 := (S13.out.blk (i := 0) rfl).cell (i := 0) rfl
  have h_qv_0 := (S13.out.blk (i := 2) rfl).cell (i := 0) rfl
  have h_x0_0 := (S13.out.blk (i := 4) rfl).cell (i := 0) rfl
  have h_qg_0 := (S13.out.blk (i := 6) rfl).cell (i := 0) rfl
  go_wp2_with fail
  clear h_a0_0 h_qv_0 h_x0_0 h_qg_0
  refine (markM_st 1 _ S13.out (i := 5) rfl (by decide) hlen HROW.out (by omega) (by omega)).mono ?_
  rintro e w10 ⟨rfl, st⟩
  have S14 := Lib.hid (show St w w10 [.blk (w.heap.size) #[.slice A0 n0 c0] 24, .rows 2 36 Av ((dcR7 x0).length) cv vsv (dcR7 x0), .blk w3.heap.size #[.slice Av (dcR7 x0).length cv] 27, .rows 2 36 Ay0 (n0) cy0 vsy0 (marksSS (1) x0), .blk w4.heap.size #[.slice Ay0 n0 cy0] 27, .rows 2 36 Ag ((dcR7 x0).length) cg vsg (marksSS 1 (dcR7 x0)), .blk w5.heap.size #[.slice Ag (dcR7 x0).length cg] 27] from st)
  clear S13
  clear st
  have h_a0_0 := (S14.out.blk (i := 0) rfl).cell (i := 0) rfl
  have h_qv_0 := (S14.out.blk (i := 2) rfl).cell (i := 0) rfl
  have h_x0_0 := (S14.out.blk (i := 4) rfl).cell (i := 0) rfl
  have h_qg_0 := (S14.out.blk (i := 6) rfl).cell (i := 0) rfl
  go_wp2_with fail
  clear h_a0_0 h_qv_0 h_x0_0 h_qg_0
  refine (heldM_any 1 _ rfl (ownSS_rd (S14.out.sep.ownSS (i := 5) rfl)) hlen HROW.out (by omega) (by omega)).mono ?_
  rintro e w11 ⟨rfl, bel⟩
  have S15 := Lib.hid (show St w w11 [.blk (w.heap.size) #[.slice A0 n0 c0] 24, .rows 2 36 Av ((dcR7 x0).length) cv vsv (dcR7 x0), .blk w3.heap.size #[.slice Av (dcR7 x0).length cv] 27, .rows 2 36 Ay0 (n0) cy0 vsy0 (marksSS (1) x0), .blk w4.heap.size #[.slice Ay0 n0 cy0] 27, .rows 2 36 Ag ((dcR7 x0).length) cg vsg (marksSS 1 (dcR7 x0)), .blk w5.heap.size #[.slice Ag (dcR7 x0).length cg] 27] from S14.out.go bel)
  clear S14
  clear bel
  have h_a0_0 := (S15.out.blk (i := 0) rfl).cell (i := 0) rfl
  have h_qv_0 := (S15.out.blk (i := 2) rfl).cell (i := 0) rfl
  have h_x0_0 := (S15.out.blk (i := 4) rfl).cell (i := 0) rfl
  have h_qg_0 := (S15.out.blk (i := 6) rfl).cell (i := 0) rfl
  go_wp2_with fail
  clear h_a0_0 h_qv_0 h_x0_0 h_qg_0
  refine (toM_any _ HX0.out (HA0.out.keep S15.out.below) hb0 HR0.out).mono ?_
  rintro e w12 ⟨Ab0_, cb0_, rfl, own, bel⟩
  obtain ⟨vsb0_, st⟩ := S15.out.addRows bel own (Nat.le_refl _) (Nat.le_refl _)
  have S16 := Lib.hid (show St w w12 [.blk (w.heap.size) #[.slice A0 n0 c0] 24, .rows 2 36 Av ((dcR7 x0).length) cv vsv (dcR7 x0), .blk w3.heap.size #[.slice Av (dcR7 x0).length cv] 27, .rows 2 36 Ay0 (n0) cy0 vsy0 (marksSS (1) x0), .blk w4.heap.size #[.slice Ay0 n0 cy0] 27, .rows 2 36 Ag ((dcR7 x0).length) cg vsg (marksSS 1 (dcR7 x0)), .blk w5.heap.size #[.slice Ag (dcR7 x0).length cg] 27, .rows 2 36 Ab0_ (n0) cb0_ vsb0_ (x0)] from st)
  clear S15
  clear st bel own
  have h_a0_0 := (S16.out.blk (i := 0) rfl).cell (i := 0) rfl
  have h_qv_0 := (S16.out.blk (i := 2) rfl).cell (i := 0) rfl
  have h_x0_0 := (S16.out.blk (i := 4) rfl).cell (i := 0) rfl
  have h_qg_0 := (S16.out.blk (i := 6) rfl).cell (i := 0) rfl
  go_wp2_with fail
  clear h_a0_0 h_qv_0 h_x0_0 h_qg_0
  refine (iDoubleCover_any _ HX0.out (ownSS_rd (S16.out.sep.ownSS (i := 7) rfl)) hb0 HR0.out).mono ?_
  rintro e w13 ⟨Ah, ch, rfl, own, bel⟩
  obtain ⟨vsh, st⟩ := S16.out.addRows bel own (Nat.le_refl _) (Nat.le_refl _)
  have S17 := Lib.hid (show St w w13 [.blk (w.heap.size) #[.slice A0 n0 c0] 24, .rows 2 36 Av ((dcR7 x0).length) cv vsv (dcR7 x0), .blk w3.heap.size #[.slice Av (dcR7 x0).length cv] 27, .rows 2 36 Ay0 (n0) cy0 vsy0 (marksSS (1) x0), .blk w4.heap.size #[.slice Ay0 n0 cy0] 27, .rows 2 36 Ag ((dcR7 x0).length) cg vsg (marksSS 1 (dcR7 x0)), .blk w5.heap.size #[.slice Ag (dcR7 x0).length cg] 27, .rows 2 36 Ab0_ (n0) cb0_ vsb0_ (x0), .rows 2 36 Ah ((dcR7 x0).length) ch vsh (dcR7 x0)] from st)
  clear S16
  clear st bel own
  have S18 := Lib.hid (show St w (w13.alloc (.cells #[.slice Ah (dcR7 x0).length ch] 27)) [.blk (w.heap.size) #[.slice A0 n0 c0] 24, .rows 2 36 Av ((dcR7 x0).length) cv vsv (dcR7 x0), .blk w3.heap.size #[.slice Av (dcR7 x0).length cv] 27, .rows 2 36 Ay0 (n0) cy0 vsy0 (marksSS (1) x0), .blk w4.heap.size #[.slice Ay0 n0 cy0] 27, .rows 2 36 Ag ((dcR7 x0).length) cg vsg (marksSS 1 (dcR7 x0)), .blk w5.heap.size #[.slice Ag (dcR7 x0).length cg] 27, .rows 2 36 Ab0_ (n0) cb0_ vsb0_ (x0), .rows 2 36 Ah ((dcR7 x0).length) ch vsh (dcR7 x0), .blk w13.heap.size #[.slice Ah (dcR7 x0).length ch] 27] from S17.out.addBlk #[.slice Ah (dcR7 x0).length ch] 27)
  clear S17
  have S19 := Lib.hid (show St w (w13.alloc (.cells #[.slice Ah (dcR7 x0).length ch] 27)) [.blk (w.heap.size) #[.slice A0 n0 c0] 24, .rows 2 36 Av ((dcR7 x0).length) cv vsv (dcR7 x0), .blk w3.heap.size #[.slice Av (dcR7 x0).length cv] 27, .rows 2 36 Ay0 (n0) cy0 vsy0 (marksSS (1) x0), .blk w4.heap.size #[.slice Ay0 n0 cy0] 27, .rows 2 36 Ag ((dcR7 x0).length) cg vsg (marksSS 1 (dcR7 x0)), .blk w5.heap.size #[.slice Ag (dcR7 x0).length cg] 27, .rows 2 36 Ah ((dcR7 x0).length) ch vsh (dcR7 x0), .blk w13.heap.size #[.slice Ah (dcR7 x0).length ch] 27] from S18.out.drop 7)
  clear S18
  have h_a0_0 := (S19.out.blk (i := 0) rfl).cell (i := 0) rfl
  have h_qv_0 := (S19.out.blk (i := 2) rfl).cell (i := 0) rfl
  have h_x0_0 := (S19.out.blk (i := 4) rfl).cell (i := 0) rfl
  have h_qg_0 := (S19.out.blk (i := 6) rfl).cell (i := 0) rfl
  have h_qh_0 := (S19.out.blk (i := 8) rfl).cell (i := 0) rfl
  go_wp2_with fail
  clear h_a0_0 h_qv_0 h_x0_0 h_qg_0 h_qh_0
  refine (eqM_same _ rfl rfl (ownSS_rd (S19.out.sep.ownSS (i := 7) rfl)) (ownSS_rd (S19.out.sep.ownSS (i := 1) rfl)) (by omega)).mono ?_
  rintro e w14 ⟨rfl, bel⟩
  have S20 := Lib.hid (show St w w14 [.blk (w.heap.size) #[.slice A0 n0 c0] 24, .rows 2 36 Av ((dcR7 x0).length) cv vsv (dcR7 x0), .blk w3.heap.size #[.slice Av (dcR7 x0).length cv] 27, .rows 2 36 Ay0 (n0) cy0 vsy0 (marksSS (1) x0), .blk w4.heap.size #[.slice Ay0 n0 cy0] 27, .rows 2 36 Ag ((dcR7 x0).length) cg vsg (marksSS 1 (dcR7 x0)), .blk w5.heap.size #[.slice Ag (dcR7 x0).length cg] 27, .rows 2 36 Ah ((dcR7 x0).length) ch vsh (dcR7 x0), .blk w13.heap.size #[.slice Ah (dcR7 x0).length ch] 27] from S19.out.go bel)
  clear S19
  clear bel
  have h_a0_0 := (S20.out.blk (i := 0) rfl).cell (i := 0) rfl
  have h_qv_0 := (S20.out.blk (i := 2) rfl).cell (i := 0) rfl
  have h_x0_0 := (S20.out.blk (i := 4) rfl).cell (i := 0) rfl
  have h_qg_0 := (S20.out.blk (i := 6) rfl).cell (i := 0) rfl
  have h_qh_0 := (S20.out.blk (i := 8) rfl).cell (i := 0) rfl
  go_wp2_with fail
  clear h_a0_0 h_qv_0 h_x0_0 h_qg_0 h_qh_0
  refine (heldM_any 1 _ rfl (ownSS_rd (S20.out.sep.ownSS (i := 5) rfl)) hlen HROW.out (by omega) (by omega)).mono ?_
  rintro e w15 ⟨rfl, bel⟩
  have S21 := Lib.hid (show St w w15 [.blk (w.heap.size) #[.slice A0 n0 c0] 24, .rows 2 36 Av ((dcR7 x0).length) cv vsv (dcR7 x0), .blk w3.heap.size #[.slice Av (dcR7 x0).length cv] 27, .rows 2 36 Ay0 (n0) cy0 vsy0 (marksSS (1) x0), .blk w4.heap.size #[.slice Ay0 n0 cy0] 27, .rows 2 36 Ag ((dcR7 x0).length) cg vsg (marksSS 1 (dcR7 x0)), .blk w5.heap.size #[.slice Ag (dcR7 x0).length cg] 27, .rows 2 36 Ah ((dcR7 x0).length) ch vsh (dcR7 x0), .blk w13.heap.size #[.slice Ah (dcR7 x0).length ch] 27] from S20.out.go bel)
  clear S20
  clear bel
  have h_a0_0 := (S21.out.blk (i := 0) rfl).cell (i := 0) rfl
  have h_qv_0 := (S21.out.blk (i := 2) rfl).cell (i := 0) rfl
  have h_x0_0 := (S21.out.blk (i := 4) rfl).cell (i := 0) rfl
  have h_qg_0 := (S21.out.blk (i := 6) rfl).cell (i := 0) rfl
  have h_qh_0 := (S21.out.blk (i := 8) rfl).cell (i := 0) rfl
  go_wp2
  go_ret
  exact ⟨rfl, S21.out.below⟩

theorem walk_FnExactDoubleCover (a0 : Option Addr) (len0 cap0 : Nat) (z0 : List (List Int)) (w : World) (w0 : IsRows w a0 len0 z0) :
    Calls Try.prog 10 #[.agg #[.slice a0 len0 cap0]] w fun e w' => e = .returned (.bool true) ∧ Below w.heap.size w w' := by
  obtain ⟨hx0, ha0, hm0⟩ := w0
  exact law_DoubleCover w hx0 ha0 hm0
end Go.Proofs.Ytmgoaabeopnopaa
