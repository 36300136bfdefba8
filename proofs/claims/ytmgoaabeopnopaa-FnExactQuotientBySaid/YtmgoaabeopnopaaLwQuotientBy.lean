import Derived.Test.YtmgoaabeopnopaaC8
import Derived.Test.YtmgoaabeopnopaaPl
import Derived.Test.YtmgoaabeopnopaaL12
import Derived.Test.YtmgoaabeopnopaaL1
namespace Go.Proofs.Ytmgoaabeopnopaa
open Go.RowKit

set_option maxHeartbeats 6400000 in
set_option maxRecDepth 8000 in
theorem law_QuotientBy {A0 : Option Addr} {c0 : Nat} {x0 : List (List Int)} {n0 : Nat} {A1 : Option Addr} {c1 : Nat} {x1 : List (List Int)} {n1 : Nat} (w : World) (hx0 : x0.length = n0) (ha0 : RdSS w A0 x0) (hm0 : n0 ≤ maxLen) (hx1 : x1.length = n1) (ha1 : RdSS w A1 x1) (hm1 : n1 ≤ maxLen) :
    Calls Try.prog 3 #[.agg #[.slice A0 n0 c0], .slice A1 n1 c1] w fun e w' => e = .returned (.bool true) ∧ Below w.heap.size w w' := by
  unfold maxLen at hm0
  have HX0 := Lib.hid hx0
  have HA0 := Lib.hid ha0
  clear hx0 ha0
  unfold maxLen at hm1
  have HX1 := Lib.hid hx1
  have HA1 := Lib.hid ha1
  clear hx1 ha1
  have st0 := ((St.start w).addBlk #[.slice A0 n0 c0] 24)
  have S0 := Lib.hid (show St w (w.alloc (.cells #[.slice A0 n0 c0] 24)) [.blk (w.heap.size) #[.slice A0 n0 c0] 24] from st0)
  clear st0
  go_enter Try.func3, Try.ntmps3
  have h_a0_0 := (S0.out.blk (i := 0) rfl).cell (i := 0) rfl
  go_wp2_with fail
  clear h_a0_0
  refine (szM_any _ HX0.out (HA0.out.keep S0.out.below) hm0).mono ?_
  rintro e w1 ⟨r, rfl, g0, g1, g2, bel⟩
  have S1 := Lib.hid (show St w w1 [.blk (w.heap.size) #[.slice A0 n0 c0] 24] from S0.out.go bel)
  clear S0
  clear bel
  by_cases hneg : r < 0
  · clear g2
    go_wp2
    go_ret
    exact ⟨rfl, S1.out.below⟩
  have hpr : 0 ≤ r := by omega
  have hqr : r ≤ 1048576 := g1
  have hz := g2 (by omega)
  have hb0 : n0 ≤ 1048576 := by have := hz.1; rw [HX0.out] at this; omega
  have HR0 := Lib.hid hz.2
  clear g2 hz
  have h_a0_0 := (S1.out.blk (i := 0) rfl).cell (i := 0) rfl
  go_wp2_with fail
  clear h_a0_0
  refine (szl_any r _ hpr hqr HX1.out (HA1.out.keep S1.out.below) hm1).mono ?_
  rintro e w2 ⟨r1, rfl, g0, g1, g2, rfl⟩
  by_cases hneg : r1 < 0
  · clear g2
    go_wp2
    go_ret
    exact ⟨rfl, S1.out.below⟩
  have hpr1 : 0 ≤ r1 := by omega
  have hqr1 : r1 ≤ 1048576 := g1
  have hz := g2 (by omega)
  have hb1 : n1 ≤ 1048576 := by have := hz.1; rw [HX1.out] at this; omega
  have HR1 := Lib.hid hz.2
  clear g2 hz
  have h_a0_0 := (S1.out.blk (i := 0) rfl).cell (i := 0) rfl
  go_wp2_with fail
  clear h_a0_0
  refine (toM_any _ HX0.out (HA0.out.keep S1.out.below) hb0 HR0.out).mono ?_
  rintro e w3 ⟨Aa0_, ca0_, rfl, own, bel⟩
  obtain ⟨vsa0_, st⟩ := S1.out.addRows bel own (Nat.le_refl _) (Nat.le_refl _)
  have S2 := Lib.hid (show St w w3 [.blk (w.heap.size) #[.slice A0 n0 c0] 24, .rows 2 36 Aa0_ (n0) ca0_ vsa0_ (x0)] from st)
  clear S1
  clear st bel own
  have h_a0_0 := (S2.out.blk (i := 0) rfl).cell (i := 0) rfl
  go_wp2_with fail
  clear h_a0_0
  refine (toSS_any _ HX1.out (HA1.out.keep S2.out.below) hb1 HR1.out).mono ?_
  rintro e w4 ⟨Aa1_, ca1_, rfl, own, bel⟩
  obtain ⟨vsa1_, st⟩ := S2.out.addRows bel own (Nat.le_refl _) (Nat.le_refl _)
  have S3 := Lib.hid (show St w w4 [.blk (w.heap.size) #[.slice A0 n0 c0] 24, .rows 2 36 Aa0_ (n0) ca0_ vsa0_ (x0), .rows 2 36 Aa1_ (n1) ca1_ vsa1_ (x1)] from st)
  clear S2
  clear st bel own
  have h_a0_0 := (S3.out.blk (i := 0) rfl).cell (i := 0) rfl
  go_wp2_with fail
  clear h_a0_0
  refine (sQuotientBy_any _ HX0.out (ownSS_rd (S3.out.sep.ownSS (i := 1) rfl)) hb0 HR0.out HX1.out (ownSS_rd (S3.out.sep.ownSS (i := 2) rfl)) hb1 HR1.out).mono ?_
  rintro e w5 ⟨Av, cv, rfl, own, bel⟩
  obtain ⟨vsv, st⟩ := S3.out.addRows bel own (Nat.le_refl _) (Nat.le_refl _)
  have S4 := Lib.hid (show St w w5 [.blk (w.heap.size) #[.slice A0 n0 c0] 24, .rows 2 36 Aa0_ (n0) ca0_ vsa0_ (x0), .rows 2 36 Aa1_ (n1) ca1_ vsa1_ (x1), .rows 2 36 Av ((quR7 x0 x1).length) cv vsv (quR7 x0 x1)] from st)
  clear S3
  clear st bel own
  have S5 := Lib.hid (show St w (w5.alloc (.cells #[.slice Av (quR7 x0 x1).length cv] 27)) [.blk (w.heap.size) #[.slice A0 n0 c0] 24, .rows 2 36 Aa0_ (n0) ca0_ vsa0_ (x0), .rows 2 36 Aa1_ (n1) ca1_ vsa1_ (x1), .rows 2 36 Av ((quR7 x0 x1).length) cv vsv (quR7 x0 x1), .blk w5.heap.size #[.slice Av (quR7 x0 x1).length cv] 27] from S4.out.addBlk #[.slice Av (quR7 x0 x1).length cv] 27)
  clear S4
  have S6 := Lib.hid (show St w (w5.alloc (.cells #[.slice Av (quR7 x0 x1).length cv] 27)) [.blk (w.heap.size) #[.slice A0 n0 c0] 24, .rows 2 36 Aa1_ (n1) ca1_ vsa1_ (x1), .rows 2 36 Av ((quR7 x0 x1).length) cv vsv (quR7 x0 x1), .blk w5.heap.size #[.slice Av (quR7 x0 x1).length cv] 27] from S5.out.drop 1)
  clear S5
  have S7 := Lib.hid (show St w (w5.alloc (.cells #[.slice Av (quR7 x0 x1).length cv] 27)) [.blk (w.heap.size) #[.slice A0 n0 c0] 24, .rows 2 36 Av ((quR7 x0 x1).length) cv vsv (quR7 x0 x1), .blk w5.heap.size #[.slice Av (quR7 x0 x1).length cv] 27] from S6.out.drop 1)
  clear S6
  have h_a0_0 := (S7.out.blk (i := 0) rfl).cell (i := 0) rfl
  have h_qv_0 := (S7.out.blk (i := 2) rfl).cell (i := 0) rfl
  go_wp2_with fail
  clear h_a0_0 h_qv_0
  refine (toM_any _ HX0.out (HA0.out.keep S7.out.below) hb0 HR0.out).mono ?_
  rintro e w6 ⟨Ay0, cy0, rfl, own, bel⟩
  obtain ⟨vsy0, st⟩ := S7.out.addRows bel own (Nat.le_refl _) (Nat.le_refl _)
  have S8 := Lib.hid (show St w w6 [.blk (w.heap.size) #[.slice A0 n0 c0] 24, .rows 2 36 Av ((quR7 x0 x1).length) cv vsv (quR7 x0 x1), .blk w5.heap.size #[.slice Av (quR7 x0 x1).length cv] 27, .rows 2 36 Ay0 (n0) cy0 vsy0 (x0)] from st)
  clear S7
  clear st bel own
  have S9 := Lib.hid (show St w (w6.alloc (.cells #[.slice Ay0 n0 cy0] 27)) [.blk (w.heap.size) #[.slice A0 n0 c0] 24, .rows 2 36 Av ((quR7 x0 x1).length) cv vsv (quR7 x0 x1), .blk w5.heap.size #[.slice Av (quR7 x0 x1).length cv] 27, .rows 2 36 Ay0 (n0) cy0 vsy0 (x0), .blk w6.heap.size #[.slice Ay0 n0 cy0] 27] from S8.out.addBlk #[.slice Ay0 n0 cy0] 27)
  clear S8
  have h_a0_0 := (S9.out.blk (i := 0) rfl).cell (i := 0) rfl
  have h_qv_0 := (S9.out.blk (i := 2) rfl).cell (i := 0) rfl
  have h_x0_0 := (S9.out.blk (i := 4) rfl).cell (i := 0) rfl
  go_wp2_with fail
  clear h_a0_0 h_qv_0 h_x0_0
  refine (toSS_any _ HX1.out (HA1.out.keep S9.out.below) hb1 HR1.out).mono ?_
  rintro e w7 ⟨Ay1, cy1, rfl, own, bel⟩
  obtain ⟨vsy1, st⟩ := S9.out.addRows bel own (Nat.le_refl _) (Nat.le_refl _)
  have S10 := Lib.hid (show St w w7 [.blk (w.heap.size) #[.slice A0 n0 c0] 24, .rows 2 36 Av ((quR7 x0 x1).length) cv vsv (quR7 x0 x1), .blk w5.heap.size #[.slice Av (quR7 x0 x1).length cv] 27, .rows 2 36 Ay0 (n0) cy0 vsy0 (x0), .blk w6.heap.size #[.slice Ay0 n0 cy0] 27, .rows 2 36 Ay1 (n1) cy1 vsy1 (x1)] from st)
  clear S9
  clear st bel own
  have h_a0_0 := (S10.out.blk (i := 0) rfl).cell (i := 0) rfl
  have h_qv_0 := (S10.out.blk (i := 2) rfl).cell (i := 0) rfl
  have h_x0_0 := (S10.out.blk (i := 4) rfl).cell (i := 0) rfl
  go_wp2_with fail
  clear h_a0_0 h_qv_0 h_x0_0
  refine (iQuotientBy_any _ HX0.out (ownSS_rd (S10.out.sep.ownSS (i := 3) rfl)) hb0 HR0.out HX1.out (ownSS_rd (S10.out.sep.ownSS (i := 5) rfl)) hb1 HR1.out).mono ?_
  rintro e w8 ⟨Ag, cg, rfl, own, bel⟩
  obtain ⟨vsg, st⟩ := S10.out.addRows bel own (Nat.le_refl _) (Nat.le_refl _)
  have S11 := Lib.hid (show St w w8 [.blk (w.heap.size) #[.slice A0 n0 c0] 24, .rows 2 36 Av ((quR7 x0 x1).length) cv vsv (quR7 x0 x1), .blk w5.heap.size #[.slice Av (quR7 x0 x1).length cv] 27, .rows 2 36 Ay0 (n0) cy0 vsy0 (x0), .blk w6.heap.size #[.slice Ay0 n0 cy0] 27, .rows 2 36 Ay1 (n1) cy1 vsy1 (x1), .rows 2 36 Ag ((quR7 x0 x1).length) cg vsg (quR7 x0 x1)] from st)
  clear S10
  clear st bel own
  have S12 := Lib.hid (show St w (w8.alloc (.cells #[.slice Ag (quR7 x0 x1).length cg] 27)) [.blk (w.heap.size) #[.slice A0 n0 c0] 24, .rows 2 36 Av ((quR7 x0 x1).length) cv vsv (quR7 x0 x1), .blk w5.heap.size #[.slice Av (quR7 x0 x1).length cv] 27, .rows 2 36 Ay0 (n0) cy0 vsy0 (x0), .blk w6.heap.size #[.slice Ay0 n0 cy0] 27, .rows 2 36 Ay1 (n1) cy1 vsy1 (x1), .rows 2 36 Ag ((quR7 x0 x1).length) cg vsg (quR7 x0 x1), .blk w8.heap.size #[.slice Ag (quR7 x0 x1).length cg] 27] from S11.out.addBlk #[.slice Ag (quR7 x0 x1).length cg] 27)
  clear S11
  have hlen : (quR7 x0 x1).length ≤ 1048576 := (quR7_le _ _).1
  have HROW := Lib.hid (show ∀ xs ∈ quR7 x0 x1, (xs.length : Int) ≤ 1048576 from (quR7_le _ _).2)
  have htot := totalL_le HROW.out (quR7 x0 x1).length
  rw [List.take_length] at htot
  have h_a0_0 := (S12.out.blk (i := 0) rfl).cell (i := 0) rfl
  have h_qv_0 := (S12.out.blk (i := 2) rfl).cell (i := 0) rfl
  have h_x0_0 := (S12.out.blk (i := 4) rfl).cell (i := 0) rfl
  have h_qg_0 := (S12.out.blk (i := 7) rfl).cell (i := 0) rfl
  go_wp2_with fail
  clear h_a0_0 h_qv_0 h_x0_0 h_qg_0
  refine (eqM_same _ rfl rfl (ownSS_rd (S12.out.sep.ownSS (i := 6) rfl)) (ownSS_rd (S12.out.sep.ownSS (i := 1) rfl)) (by omega)).mono ?_
  rintro e w9 ⟨rfl, bel⟩
  have S13 := Lib.hid (show St w w9 [.blk (w.heap.size) #[.slice A0 n0 c0] 24, .rows 2 36 Av ((quR7 x0 x1).length) cv vsv (quR7 x0 x1), .blk w5.heap.size #[.slice Av (quR7 x0 x1).length cv] 27, .rows 2 36 Ay0 (n0) cy0 vsy0 (x0), .blk w6.heap.size #[.slice Ay0 n0 cy0] 27, .rows 2 36 Ay1 (n1) cy1 vsy1 (x1), .rows 2 36 Ag ((quR7 x0 x1).length) cg vsg (quR7 x0 x1), .blk w8.heap.size #[.slice Ag (quR7 x0 x1).length cg] 27] from S12.out.go bel)
  clear S12
  clear bel
  have HAK := Lib.hid (HA0.out.keep S13.out.below)
  have HOK := Lib.hid (ownSS_rd (S13.out.sep.ownSS (i := 3) rfl))
  have h_a0_0 := (S13.out.blk (i := 0) rfl).cell (i := 0) rfl
  have h_qv_0 := (S13.out.blk (i := 2) rfl).cell (i := 0) rfl
  have h_x0_0 := (S13.out.blk (i := 4) rfl).cell (i := 0) rfl
  have h_qg_0 := (S13.out.blk (i := 7) rfl).cell (i := 0) rfl
  go_wp2_with fail
  go_region_held3 (fun w' => Below w9.heap.size w9 w' ∧ w'.cell? ⟨w.heap.size, 0, none⟩ = some (.slice A0 n0 c0) ∧ w'.cell? ⟨w6.heap.size, 0, none⟩ = some (.slice Ay0 n0 cy0)) (first | (exact ⟨below_drewN (Below.refl _ _) 1, h_a0_0, h_x0_0⟩) | (exact q))
    (first
      | (go_at_call 19
         refine (toM_any _ HX0.out (rd_s3 HAK.out (by assumption)) hb0 HR0.out).mono ?_
         rintro e wc ⟨A6, c6, rfl, own, bel⟩
         have q := s3_go (by assumption) bel)
      | (go_at_call 22
         refine (eqM_same _ HX0.out HX0.out (rd_s3 HOK.out (by assumption)) (ownSS_rd own) (by omega)).mono ?_
         rintro e w10 ⟨rfl, bel2⟩
         have q := s3_go (by assumption) bel2))
  clear h_a0_0 h_qv_0 h_x0_0 h_qg_0
  have S14 := Lib.hid (show St w w10 [.blk (w.heap.size) #[.slice A0 n0 c0] 24, .rows 2 36 Av ((quR7 x0 x1).length) cv vsv (quR7 x0 x1), .blk w5.heap.size #[.slice Av (quR7 x0 x1).length cv] 27, .rows 2 36 Ay0 (n0) cy0 vsy0 (x0), .blk w6.heap.size #[.slice Ay0 n0 cy0] 27, .rows 2 36 Ay1 (n1) cy1 vsy1 (x1), .rows 2 36 Ag ((quR7 x0 x1).length) cg vsg (quR7 x0 x1), .blk w8.heap.size #[.slice Ag (quR7 x0 x1).length cg] 27] from S13.out.go q.1)
  clear S13
  clear HAK HOK q own
  have h_a0_0 := (S14.out.blk (i := 0) rfl).cell (i := 0) rfl
  have h_qv_0 := (S14.out.blk (i := 2) rfl).cell (i := 0) rfl
  have h_x0_0 := (S14.out.blk (i := 4) rfl).cell (i := 0) rfl
  have h_qg_0 := (S14.out.blk (i := 7) rfl).cell (i := 0) rfl
  go_wp2_with fail
  clear h_a0_0 h_qv_0 h_x0_0 h_qg_0
  refine (toSS_any _ HX1.out (HA1.out.keep S14.out.below) hb1 HR1.out).mono ?_
  rintro e w11 ⟨Az1, cz1, rfl, own, bel⟩
  obtain ⟨vsz1, st⟩ := S14.out.addRows bel own (Nat.le_refl _) (Nat.le_refl _)
  have S15 := Lib.hid (show St w w11 [.blk (w.heap.size) #[.slice A0 n0 c0] 24, .rows 2 36 Av ((quR7 x0 x1).length) cv vsv (quR7 x0 x1), .blk w5.heap.size #[.slice Av (quR7 x0 x1).length cv] 27, .rows 2 36 Ay0 (n0) cy0 vsy0 (x0), .blk w6.heap.size #[.slice Ay0 n0 cy0] 27, .rows 2 36 Ay1 (n1) cy1 vsy1 (x1), .rows 2 36 Ag ((quR7 x0 x1).length) cg vsg (quR7 x0 x1), .blk w8.heap.size #[.slice Ag (quR7 x0 x1).length cg] 27, .rows 2 36 Az1 (n1) cz1 vsz1 (x1)] from st)
  clear S14
  clear st bel own
  have h_a0_0 := (S15.out.blk (i := 0) rfl).cell (i := 0) rfl
  have h_qv_0 := (S15.out.blk (i := 2) rfl).cell (i := 0) rfl
  have h_x0_0 := (S15.out.blk (i := 4) rfl).cell (i := 0) rfl
  have h_qg_0 := (S15.out.blk (i := 7) rfl).cell (i := 0) rfl
  go_wp2_with fail
  clear h_a0_0 h_qv_0 h_x0_0 h_qg_0
  refine (eqSS_same _ HX1.out HX1.out (ownSS_rd (S15.out.sep.ownSS (i := 5) rfl)) (ownSS_rd (S15.out.sep.ownSS (i := 8) rfl)) (by omega)).mono ?_
  rintro e w12 ⟨rfl, bel⟩
  have S16 := Lib.hid (show St w w12 [.blk (w.heap.size) #[.slice A0 n0 c0] 24, .rows 2 36 Av ((quR7 x0 x1).length) cv vsv (quR7 x0 x1), .blk w5.heap.size #[.slice Av (quR7 x0 x1).length cv] 27, .rows 2 36 Ay0 (n0) cy0 vsy0 (x0), .blk w6.heap.size #[.slice Ay0 n0 cy0] 27, .rows 2 36 Ay1 (n1) cy1 vsy1 (x1), .rows 2 36 Ag ((quR7 x0 x1).length) cg vsg (quR7 x0 x1), .blk w8.heap.size #[.slice Ag (quR7 x0 x1).length cg] 27, .rows 2 36 Az1 (n1) cz1 vsz1 (x1)] from S15.out.go bel)
  clear S15
  clear bel
  have S17 := Lib.hid (show St w w12 [.blk (w.heap.size) #[.slice A0 n0 c0] 24, .rows 2 36 Av ((quR7 x0 x1).length) cv vsv (quR7 x0 x1), .blk w5.heap.size #[.slice Av (quR7 x0 x1).length cv] 27, .rows 2 36 Ay0 (n0) cy0 vsy0 (x0), .blk w6.heap.size #[.slice Ay0 n0 cy0] 27, .rows 2 36 Ay1 (n1) cy1 vsy1 (x1), .rows 2 36 Ag ((quR7 x0 x1).length) cg vsg (quR7 x0 x1), .blk w8.heap.size #[.slice Ag (quR7 x0 x1).length cg] 27] from S16.out.drop 8)
  clear S16
  have ht0 := totalL_le HR0.out x0.length
  rw [List.take_length, HX0.out] at ht0
  have ht1 := totalL_le HR1.out x1.length
  rw [List.take_length, HX1.out] at ht1
  have h_a0_0 := (S17.out.blk (i := 0) rfl).cell (i := 0) rfl
  have h_qv_0 := (S17.out.blk (i := 2) rfl).cell (i := 0) rfl
  have h_x0_0 := (S17.out.blk (i := 4) rfl).cell (i := 0) rfl
  have h_qg_0 := (S17.out.blk (i := 7) rfl).cell (i := 0) rfl
  go_wp2_with fail
  clear h_a0_0 h_qv_0 h_x0_0 h_qg_0
  refine (markM_st (1) _ S17.out (i := 3) rfl (by decide) hb0 HR0.out (by omega) (by omega)).mono ?_
  rintro e w13 ⟨rfl, st⟩
  have S18 := Lib.hid (show St w w13 [.blk (w.heap.size) #[.slice A0 n0 c0] 24, .rows 2 36 Av ((quR7 x0 x1).length) cv vsv (quR7 x0 x1), .blk w5.heap.size #[.slice Av (quR7 x0 x1).length cv] 27, .rows 2 36 Ay0 (n0) cy0 vsy0 (marksSS (1) x0), .blk w6.heap.size #[.slice Ay0 n0 cy0] 27, .rows 2 36 Ay1 (n1) cy1 vsy1 (x1), .rows 2 36 Ag ((quR7 x0 x1).length) cg vsg (quR7 x0 x1), .blk w8.heap.size #[.slice Ag (quR7 x0 x1).length cg] 27] from st)
  clear S17
  clear st
  have h_a0_0 := (S18.out.blk (i := 0) rfl).cell (i := 0) rfl
  have h_qv_0 := (S18.out.blk (i := 2) rfl).cell (i := 0) rfl
  have h_x0_0 := (S18.out.blk (i := 4) rfl).cell (i := 0) rfl
  have h_qg_0 := (S18.out.blk (i := 7) rfl).cell (i := 0) rfl
  go_wp2_with fail
  clear h_a0_0 h_qv_0 h_x0_0 h_qg_0
  refine (markSS_st (1 + (totalL x0 : Int)) _ S18.out (i := 5) rfl (by decide) hb1 HR1.out (by omega) (by omega)).mono ?_
  rintro e w14 ⟨rfl, st⟩
  have S19 := Lib.hid (show St w w14 [.blk (w.heap.size) #[.slice A0 n0 c0] 24, .rows 2 36 Av ((quR7 x0 x1).length) cv vsv (quR7 x0 x1), .blk w5.heap.size #[.slice Av (quR7 x0 x1).length cv] 27, .rows 2 36 Ay0 (n0) cy0 vsy0 (marksSS (1) x0), .blk w6.heap.size #[.slice Ay0 n0 cy0] 27, .rows 2 36 Ay1 (n1) cy1 vsy1 (marksSS (1 + (totalL x0 : Int)) x1), .rows 2 36 Ag ((quR7 x0 x1).length) cg vsg (quR7 x0 x1), .blk w8.heap.size #[.slice Ag (quR7 x0 x1).length cg] 27] from st)
  clear S18
  clear st
  have h_a0_0 := (S19.out.blk (i := 0) rfl).cell (i := 0) rfl
  have h_qv_0 := (S19.out.blk (i := 2) rfl).cell (i := 0) rfl
  have h_x0_0 := (S19.out.blk (i := 4) rfl).cell (i := 0) rfl
  have h_qg_0 := (S19.out.blk (i := 7) rfl).cell (i := 0) rfl
  go_wp2_with fail
  clear h_a0_0 h_qv_0 h_x0_0 h_qg_0
  refine (eqM_same _ rfl rfl (ownSS_rd (S19.out.sep.ownSS (i := 6) rfl)) (ownSS_rd (S19.out.sep.ownSS (i := 1) rfl)) (by omega)).mono ?_
  rintro e w15 ⟨rfl, bel⟩
  have S20 := Lib.hid (show St w w15 [.blk (w.heap.size) #[.slice A0 n0 c0] 24, .rows 2 36 Av ((quR7 x0 x1).length) cv vsv (quR7 x0 x1), .blk w5.heap.size #[.slice Av (quR7 x0 x1).length cv] 27, .rows 2 36 Ay0 (n0) cy0 vsy0 (marksSS (1) x0), .blk w6.heap.size #[.slice Ay0 n0 cy0] 27, .rows 2 36 Ay1 (n1) cy1 vsy1 (marksSS (1 + (totalL x0 : Int)) x1), .rows 2 36 Ag ((quR7 x0 x1).length) cg vsg (quR7 x0 x1), .blk w8.heap.size #[.slice Ag (quR7 x0 x1).length cg] 27] from S19.out.go bel)
  clear S19
  clear bel
  have h_a0_0 := (S20.out.blk (i := 0) rfl).cell (i := 0) rfl
  have h_qv_0 := (S20.out.blk (i := 2) rfl).cell (i := 0) rfl
  have h_x0_0 := (S20.out.blk (i := 4) rfl).cell (i := 0) rfl
  have h_qg_0 := (S20.out.blk (i := 7) rfl).cell (i := 0) rfl
  go_wp2_with fail
  clear h_a0_0 h_qv_0 h_x0_0 h_qg_0
  refine (markM_st 1 _ S20.out (i := 6) rfl (by decide) hlen HROW.out (by omega) (by omega)).mono ?_
  rintro e w16 ⟨rfl, st⟩
  have S21 := Lib.hid (show St w w16 [.blk (w.heap.size) #[.slice A0 n0 c0] 24, .rows 2 36 Av ((quR7 x0 x1).length) cv vsv (quR7 x0 x1), .blk w5.heap.size #[.slice Av (quR7 x0 x1).length cv] 27, .rows 2 36 Ay0 (n0) cy0 vsy0 (marksSS (1) x0), .blk w6.heap.size #[.slice Ay0 n0 cy0] 27, .rows 2 36 Ay1 (n1) cy1 vsy1 (marksSS (1 + (totalL x0 : Int)) x1), .rows 2 36 Ag ((quR7 x0 x1).length) cg vsg (marksSS 1 (quR7 x0 x1)), .blk w8.heap.size #[.slice Ag (quR7 x0 x1).length cg] 27] from st)
  clear S20
  clear st
  have h_a0_0 := (S21.out.blk (i := 0) rfl).cell (i := 0) rfl
  have h_qv_0 := (S21.out.blk (i := 2) rfl).cell (i := 0) rfl
  have h_x0_0 := (S21.out.blk (i := 4) rfl).cell (i := 0) rfl
  have h_qg_0 := (S21.out.blk (i := 7) rfl).cell (i := 0) rfl
  go_wp2_with fail
  clear h_a0_0 h_qv_0 h_x0_0 h_qg_0
  refine (heldM_any 1 _ rfl (ownSS_rd (S21.out.sep.ownSS (i := 6) rfl)) hlen HROW.out (by omega) (by omega)).mono ?_
  rintro e w17 ⟨rfl, bel⟩
  have S22 := Lib.hid (show St w w17 [.blk (w.heap.size) #[.slice A0 n0 c0] 24, .rows 2 36 Av ((quR7 x0 x1).length) cv vsv (quR7 x0 x1), .blk w5.heap.size #[.slice Av (quR7 x0 x1).length cv] 27, .rows 2 36 Ay0 (n0) cy0 vsy0 (marksSS (1) x0), .blk w6.heap.size #[.slice Ay0 n0 cy0] 27, .rows 2 36 Ay1 (n1) cy1 vsy1 (marksSS (1 + (totalL x0 : Int)) x1), .rows 2 36 Ag ((quR7 x0 x1).length) cg vsg (marksSS 1 (quR7 x0 x1)), .blk w8.heap.size #[.slice Ag (quR7 x0 x1).length cg] 27] from S21.out.go bel)
  clear S21
  clear bel
  have h_a0_0 := (S22.out.blk (i := 0) rfl).cell (i := 0) rfl
  have h_qv_0 := (S22.out.blk (i := 2) rfl).cell (i := 0) rfl
  have h_x0_0 := (S22.out.blk (i := 4) rfl).cell (i := 0) rfl
  have h_qg_0 := (S22.out.blk (i := 7) rfl).cell (i := 0) rfl
  go_wp2_with fail
  clear h_a0_0 h_qv_0 h_x0_0 h_qg_0
  refine (toM_any _ HX0.out (HA0.out.keep S22.out.below) hb0 HR0.out).mono ?_
  rintro e w18 ⟨Ab0_, cb0_, rfl, own, bel⟩
  obtain ⟨vsb0_, st⟩ := S22.out.addRows bel own (Nat.le_refl _) (Nat.le_refl _)
  have S23 := Lib.hid (show St w w18 [.blk (w.heap.size) #[.slice A0 n0 c0] 24, .rows 2 36 Av ((quR7 x0 x1).length) cv vsv (quR7 x0 x1), .blk w5.heap.size #[.slice Av (quR7 x0 x1).length cv] 27, .rows 2 36 Ay0 (n0) cy0 vsy0 (marksSS (1) x0), .blk w6.heap.size #[.slice Ay0 n0 cy0] 27, .rows 2 36 Ay1 (n1) cy1 vsy1 (marksSS (1 + (totalL x0 : Int)) x1), .rows 2 36 Ag ((quR7 x0 x1).length) cg vsg (marksSS 1 (quR7 x0 x1)), .blk w8.heap.size #[.slice Ag (quR7 x0 x1).length cg] 27, .rows 2 36 Ab0_ (n0) cb0_ vsb0_ (x0)] from st)
  clear S22
  clear st bel own
  have h_a0_0 := (S23.out.blk (i := 0) rfl).cell (i := 0) rfl
  have h_qv_0 := (S23.out.blk (i := 2) rfl).cell (i := 0) rfl
  have h_x0_0 := (S23.out.blk (i := 4) rfl).cell (i := 0) rfl
  have h_qg_0 := (S23.out.blk (i := 7) rfl).cell (i := 0) rfl
  go_wp2_with fail
  clear h_a0_0 h_qv_0 h_x0_0 h_qg_0
  refine (toSS_any _ HX1.out (HA1.out.keep S23.out.below) hb1 HR1.out).mono ?_
  rintro e w19 ⟨Ab1_, cb1_, rfl, own, bel⟩
  obtain ⟨vsb1_, st⟩ := S23.out.addRows bel own (Nat.le_refl _) (Nat.le_refl _)
  have S24 := Lib.hid (show St w w19 [.blk (w.heap.size) #[.slice A0 n0 c0] 24, .rows 2 36 Av ((quR7 x0 x1).length) cv vsv (quR7 x0 x1), .blk w5.heap.size #[.slice Av (quR7 x0 x1).length cv] 27, .rows 2 36 Ay0 (n0) cy0 vsy0 (marksSS (1) x0), .blk w6.heap.size #[.slice Ay0 n0 cy0] 27, .rows 2 36 Ay1 (n1) cy1 vsy1 (marksSS (1 + (totalL x0 : Int)) x1), .rows 2 36 Ag ((quR7 x0 x1).length) cg vsg (marksSS 1 (quR7 x0 x1)), .blk w8.heap.size #[.slice Ag (quR7 x0 x1).length cg] 27, .rows 2 36 Ab0_ (n0) cb0_ vsb0_ (x0), .rows 2 36 Ab1_ (n1) cb1_ vsb1_ (x1)] from st)
  clear S23
  clear st bel own
  have h_a0_0 := (S24.out.blk (i := 0) rfl).cell (i := 0) rfl
  have h_qv_0 := (S24.out.blk (i := 2) rfl).cell (i := 0) rfl
  have h_x0_0 := (S24.out.blk (i := 4) rfl).cell (i := 0) rfl
  have h_qg_0 := (S24.out.blk (i := 7) rfl).cell (i := 0) rfl
  go_wp2_with fail
  clear h_a0_0 h_qv_0 h_x0_0 h_qg_0
  refine (iQuotientBy_any _ HX0.out (ownSS_rd (S24.out.sep.ownSS (i := 8) rfl)) hb0 HR0.out HX1.out (ownSS_rd (S24.out.sep.ownSS (i := 9) rfl)) hb1 HR1.out).mono ?_
  rintro e w20 ⟨Ah, ch, rfl, own, bel⟩
  obtain ⟨vsh, st⟩ := S24.out.addRows bel own (Nat.le_refl _) (Nat.le_refl _)
  have S25 := Lib.hid (show St w w20 [.blk (w.heap.size) #[.slice A0 n0 c0] 24, .rows 2 36 Av ((quR7 x0 x1).length) cv vsv (quR7 x0 x1), .blk w5.heap.size #[.slice Av (quR7 x0 x1).length cv] 27, .rows 2 36 Ay0 (n0) cy0 vsy0 (marksSS (1) x0), .blk w6.heap.size #[.slice Ay0 n0 cy0] 27, .rows 2 36 Ay1 (n1) cy1 vsy1 (marksSS (1 + (totalL x0 : Int)) x1), .rows 2 36 Ag ((quR7 x0 x1).length) cg vsg (marksSS 1 (quR7 x0 x1)), .blk w8.heap.size #[.slice Ag (quR7 x0 x1).length cg] 27, .rows 2 36 Ab0_ (n0) cb0_ vsb0_ (x0), .rows 2 36 Ab1_ (n1) cb1_ vsb1_ (x1), .rows 2 36 Ah ((quR7 x0 x1).length) ch vsh (quR7 x0 x1)] from st)
  clear S24
  clear st bel own
  have S26 := Lib.hid (show St w (w20.alloc (.cells #[.slice Ah (quR7 x0 x1).length ch] 27)) [.blk (w.heap.size) #[.slice A0 n0 c0] 24, .rows 2 36 Av ((quR7 x0 x1).length) cv vsv (quR7 x0 x1), .blk w5.heap.size #[.slice Av (quR7 x0 x1).length cv] 27, .rows 2 36 Ay0 (n0) cy0 vsy0 (marksSS (1) x0), .blk w6.heap.size #[.slice Ay0 n0 cy0] 27, .rows 2 36 Ay1 (n1) cy1 vsy1 (marksSS (1 + (totalL x0 : Int)) x1), .rows 2 36 Ag ((quR7 x0 x1).length) cg vsg (marksSS 1 (quR7 x0 x1)), .blk w8.heap.size #[.slice Ag (quR7 x0 x1).length cg] 27, .rows 2 36 Ab0_ (n0) cb0_ vsb0_ (x0), .rows 2 36 Ab1_ (n1) cb1_ vsb1_ (x1), .rows 2 36 Ah ((quR7 x0 x1).length) ch vsh (quR7 x0 x1), .blk w20.heap.size #[.slice Ah (quR7 x0 x1).length ch] 27] from S25.out.addBlk #[.slice Ah (quR7 x0 x1).length ch] 27)
  clear S25
  have S27 := Lib.hid (show St w (w20.alloc (.cells #[.slice Ah (quR7 x0 x1).length ch] 27)) [.blk (w.heap.size) #[.slice A0 n0 c0] 24, .rows 2 36 Av ((quR7 x0 x1).length) cv vsv (quR7 x0 x1), .blk w5.heap.size #[.slice Av (quR7 x0 x1).length cv] 27, .rows 2 36 Ay0 (n0) cy0 vsy0 (marksSS (1) x0), .blk w6.heap.size #[.slice Ay0 n0 cy0] 27, .rows 2 36 Ay1 (n1) cy1 vsy1 (marksSS (1 + (totalL x0 : Int)) x1), .rows 2 36 Ag ((quR7 x0 x1).length) cg vsg (marksSS 1 (quR7 x0 x1)), .blk w8.heap.size #[.slice Ag (quR7 x0 x1).length cg] 27, .rows 2 36 Ab1_ (n1) cb1_ vsb1_ (x1), .rows 2 36 Ah ((quR7 x0 x1).length) ch vsh (quR7 x0 x1), .blk w20.heap.size #[.slice Ah (quR7 x0 x1).length ch] 27] from S26.out.drop 8)
  clear S26
  have S28 := Lib.hid (show St w (w20.alloc (.cells #[.slice Ah (quR7 x0 x1).length ch] 27)) [.blk (w.heap.size) #[.slice A0 n0 c0] 24, .rows 2 36 Av ((quR7 x0 x1).length) cv vsv (quR7 x0 x1), .blk w5.heap.size #[.slice Av (quR7 x0 x1).length cv] 27, .rows 2 36 Ay0 (n0) cy0 vsy0 (marksSS (1) x0), .blk w6.heap.size #[.slice Ay0 n0 cy0] 27, .rows 2 36 Ay1 (n1) cy1 vsy1 (marksSS (1 + (totalL x0 : Int)) x1), .rows 2 36 Ag ((quR7 x0 x1).length) cg vsg (marksSS 1 (quR7 x0 x1)), .blk w8.heap.size #[.slice Ag (quR7 x0 x1).length cg] 27, .rows 2 36 Ah ((quR7 x0 x1).length) ch vsh (quR7 x0 x1), .blk w20.heap.size #[.slice Ah (quR7 x0 x1).length ch] 27] from S27.out.drop 8)
  clear S27
  have h_a0_0 := (S28.out.blk (i := 0) rfl).cell (i := 0) rfl
  have h_qv_0 := (S28.out.blk (i := 2) rfl).cell (i := 0) rfl
  have h_x0_0 := (S28.out.blk (i := 4) rfl).cell (i := 0) rfl
  have h_qg_0 := (S28.out.blk (i := 7) rfl).cell (i := 0) rfl
  have h_qh_0 := (S28.out.blk (i := 9) rfl).cell (i := 0) rfl
  go_wp2_with fail
  clear h_a0_0 h_qv_0 h_x0_0 h_qg_0 h_qh_0
  refine (eqM_same _ rfl rfl (ownSS_rd (S28.out.sep.ownSS (i := 8) rfl)) (ownSS_rd (S28.out.sep.ownSS (i := 1) rfl)) (by omega)).mono ?_
  rintro e w21 ⟨rfl, bel⟩
  have S29 := Lib.hid (show St w w21 [.blk (w.heap.size) #[.slice A0 n0 c0] 24, .rows 2 36 Av ((quR7 x0 x1).length) cv vsv (quR7 x0 x1), .blk w5.heap.size #[.slice Av (quR7 x0 x1).length cv] 27, .rows 2 36 Ay0 (n0) cy0 vsy0 (marksSS (1) x0), .blk w6.heap.size #[.slice Ay0 n0 cy0] 27, .rows 2 36 Ay1 (n1) cy1 vsy1 (marksSS (1 + (totalL x0 : Int)) x1), .rows 2 36 Ag ((quR7 x0 x1).length) cg vsg (marksSS 1 (quR7 x0 x1)), .blk w8.heap.size #[.slice Ag (quR7 x0 x1).length cg] 27, .rows 2 36 Ah ((quR7 x0 x1).length) ch vsh (quR7 x0 x1), .blk w20.heap.size #[.slice Ah (quR7 x0 x1).length ch] 27] from S28.out.go bel)
  clear S28
  clear bel
  have h_a0_0 := (S29.out.blk (i := 0) rfl).cell (i := 0) rfl
  have h_qv_0 := (S29.out.blk (i := 2) rfl).cell (i := 0) rfl
  have h_x0_0 := (S29.out.blk (i := 4) rfl).cell (i := 0) rfl
  have h_qg_0 := (S29.out.blk (i := 7) rfl).cell (i := 0) rfl
  have h_qh_0 := (S29.out.blk (i := 9) rfl).cell (i := 0) rfl
  go_wp2_with fail
  clear h_a0_0 h_qv_0 h_x0_0 h_qg_0 h_qh_0
  refine (heldM_any 1 _ rfl (ownSS_rd (S29.out.sep.ownSS (i := 6) rfl)) hlen HROW.out (by omega) (by omega)).mono ?_
  rintro e w22 ⟨rfl, bel⟩
  have S30 := Lib.hid (show St w w22 [.blk (w.heap.size) #[.slice A0 n0 c0] 24, .rows 2 36 Av ((quR7 x0 x1).length) cv vsv (quR7 x0 x1), .blk w5.heap.size #[.slice Av (quR7 x0 x1).length cv] 27, .rows 2 36 Ay0 (n0) cy0 vsy0 (marksSS (1) x0), .blk w6.heap.size #[.slice Ay0 n0 cy0] 27, .rows 2 36 Ay1 (n1) cy1 vsy1 (marksSS (1 + (totalL x0 : Int)) x1), .rows 2 36 Ag ((quR7 x0 x1).length) cg vsg (marksSS 1 (quR7 x0 x1)), .blk w8.heap.size #[.slice Ag (quR7 x0 x1).length cg] 27, .rows 2 36 Ah ((quR7 x0 x1).length) ch vsh (quR7 x0 x1), .blk w20.heap.size #[.slice Ah (quR7 x0 x1).length ch] 27] from S29.out.go bel)
  clear S29
  clear bel
  have h_a0_0 := (S30.out.blk (i := 0) rfl).cell (i := 0) rfl
  have h_qv_0 := (S30.out.blk (i := 2) rfl).cell (i := 0) rfl
  have h_x0_0 := (S30.out.blk (i := 4) rfl).cell (i := 0) rfl
  have h_qg_0 := (S30.out.blk (i := 7) rfl).cell (i := 0) rfl
  have h_qh_0 := (S30.out.blk (i := 9) rfl).cell (i := 0) rfl
  go_wp2
  go_ret
  exact ⟨rfl, S30.out.below⟩

theorem walk_FnExactQuotientBy (a0 : Option Addr) (len0 cap0 : Nat) (z0 : List (List Int)) (a1 : Option Addr) (len1 cap1 : Nat) (z1 : List (List Int)) (w : World) (w0 : IsRows w a0 len0 z0) (w1 : IsRows w a1 len1 z1) :
    Calls Try.prog 3 #[.agg #[.slice a0 len0 cap0], .slice a1 len1 cap1] w fun e w' => e = .returned (.bool true) ∧ Below w.heap.size w w' := by
  obtain ⟨hx0, ha0, hm0⟩ := w0
  obtain ⟨hx1, ha1, hm1⟩ := w1
  exact law_QuotientBy w hx0 ha0 hm0 hx1 ha1 hm1
end Go.Proofs.Ytmgoaabeopnopaa
