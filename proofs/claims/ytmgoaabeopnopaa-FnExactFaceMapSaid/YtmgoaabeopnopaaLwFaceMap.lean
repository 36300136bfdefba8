import Derived.Test.YtmgoaabeopnopaaC5
import Derived.Test.YtmgoaabeopnopaaL12
import Derived.Test.YtmgoaabeopnopaaL1
namespace Go.Proofs.Ytmgoaabeopnopaa
open Go.RowKit

set_option maxHeartbeats 6400000 in
set_option maxRecDepth 8000 in
theorem law_FaceMap {A0 : Option Addr} {c0 : Nat} {x0 : List (List Int)} {n0 : Nat} {A1 : Option Addr} {c1 : Nat} {x1 : List (List Int)} {n1 : Nat} {A2 : Option Addr} {c2 : Nat} {x2 : List Int} {n2 : Nat} {k3 : Int} (w : World) (hx0 : x0.length = n0) (ha0 : RdSS w A0 x0) (hm0 : n0 ≤ maxLen) (hx1 : x1.length = n1) (ha1 : RdSS w A1 x1) (hm1 : n1 ≤ maxLen) (hx2 : x2.length = n2) (ha2 : Rd w A2 (ints x2)) (hm2 : n2 ≤ maxLen) (hw3 : (Lit.int .i64 k3).wf = true) :
    Calls Try.prog 11 #[.agg #[.slice A0 n0 c0], .agg #[.slice A1 n1 c1], .slice A2 n2 c2, .int .i64 k3] w fun e w' => e = .returned (.bool true) ∧ Below w.heap.size w w' := by
  unfold maxLen at hm0
  have HX0 := Lib.hid hx0
  have HA0 := Lib.hid ha0
  clear hx0 ha0
  unfold maxLen at hm1
  have HX1 := Lib.hid hx1
  have HA1 := Lib.hid ha1
  clear hx1 ha1
  unfold maxLen at hm2
  have HX2 := Lib.hid hx2
  have HA2 := Lib.hid ha2
  clear hx2 ha2
  have HW3 := Lib.hid hw3
  clear hw3
  have st0 := (((St.start w).addBlk #[.slice A0 n0 c0] 24).addBlk #[.slice A1 n1 c1] 24)
  simp at st0
  have S0 := Lib.hid (show St w ((w.alloc (.cells #[.slice A0 n0 c0] 24)).alloc (.cells #[.slice A1 n1 c1] 24)) [.blk (w.heap.size) #[.slice A0 n0 c0] 24, .blk (w.heap.size + 1) #[.slice A1 n1 c1] 24] from st0)
  clear st0
  by_cases hn2 : 1048576 < n2
  · go_enter Try.func11, Try.ntmps11
    go_wp2
    go_ret
    exact ⟨rfl, S0.out.below⟩
  have hb2 : n2 ≤ 1048576 := by omega
  clear hn2
  go_enter Try.func11, Try.ntmps11
  have h_a0_0 := (S0.out.blk (i := 0) rfl).cell (i := 0) rfl
  have h_a1_0 := (S0.out.blk (i := 1) rfl).cell (i := 0) rfl
  go_wp2_with fail
  clear h_a0_0 h_a1_0
  refine (szM_any _ HX0.out (HA0.out.keep S0.out.below) hm0).mono ?_
  rintro e w1 ⟨r, rfl, g0, g1, g2, bel⟩
  have S1 := Lib.hid (show St w w1 [.blk (w.heap.size) #[.slice A0 n0 c0] 24, .blk (w.heap.size + 1) #[.slice A1 n1 c1] 24] from S0.out.go bel)
  clear S0
  clear bel
  by_cases hneg : r < 0
  · clear g2
    go_wp2
    go_ret
    exact ⟨rfl, S1.out.below⟩
  have hpr : 0 ≤ r := by omega
  have hqr : r ≤ 1048576 := g1
  have hz := g2 (by omega)
  have hb0 : n0 ≤ 1048576 := by have := hz.1; rw [HX0.out] at this; omega
  have HR0 := Lib.hid hz.2
  clear g2 hz
  have h_a0_0 := (S1.out.blk (i := 0) rfl).cell (i := 0) rfl
  have h_a1_0 := (S1.out.blk (i := 1) rfl).cell (i := 0) rfl
  go_wp2_with fail
  clear h_a0_0 h_a1_0
  refine (szMl_any r _ hpr hqr HX1.out (HA1.out.keep S1.out.below) hm1).mono ?_
  rintro e w2 ⟨r1, rfl, g0, g1, g2, bel⟩
  have S2 := Lib.hid (show St w w2 [.blk (w.heap.size) #[.slice A0 n0 c0] 24, .blk (w.heap.size + 1) #[.slice A1 n1 c1] 24] from S1.out.go bel)
  clear S1
  clear bel
  by_cases hneg : r1 < 0
  · clear g2
    go_wp2
    go_ret
    exact ⟨rfl, S2.out.below⟩
  have hpr1 : 0 ≤ r1 := by omega
  have hqr1 : r1 ≤ 1048576 := g1
  have hz := g2 (by omega)
  have hb1 : n1 ≤ 1048576 := by have := hz.1; rw [HX1.out] at this; omega
  have HR1 := Lib.hid hz.2
  clear g2 hz
  have Sdv := Lib.hid (S2.out.go (below_drewN (Below.refl _ _) 1))
  have h_a0_0 := (S2.out.blk (i := 0) rfl).cell (i := 0) rfl
  have h_a1_0 := (S2.out.blk (i := 1) rfl).cell (i := 0) rfl
  go_wp2
  go_region_law ((first
    | (go_simp; go_at_call 19
       first
       | refine (toM_any _ HX1.out (HA1.out.keep Sav.out.below) hb1 HR1.out).mono ?_
         rintro e wBv ⟨Aa1_, ca1_, rfl, own, bel⟩
         obtain ⟨vsa1_, st⟩ := Sav.out.addRows bel own (Nat.le_refl _) (Nat.le_refl _)
         have Sbv := Lib.hid (show St w wBv [.blk (w.heap.size) #[.slice A0 n0 c0] 24, .blk (w.heap.size + 1) #[.slice A1 n1 c1] 24, .rows 2 36 Aa0_ (n0) ca0_ vsa0_ (x0), .rows 2 36 Aa1_ (n1) ca1_ vsa1_ (x1)] from st)
         clear st bel own
         have hSbv_a0_0 := (Sbv.out.blk (i := 0) rfl).cell (i := 0) rfl
         have hSbv_a1_0 := (Sbv.out.blk (i := 1) rfl).cell (i := 0) rfl
       | refine (toM_any _ HX0.out (HA0.out.keep Sdv.out.below) hb0 HR0.out).mono ?_
         rintro e wAv ⟨Aa0_, ca0_, rfl, own, bel⟩
         obtain ⟨vsa0_, st⟩ := Sdv.out.addRows bel own (Nat.le_refl _) (Nat.le_refl _)
         have Sav := Lib.hid (show St w wAv [.blk (w.heap.size) #[.slice A0 n0 c0] 24, .blk (w.heap.size + 1) #[.slice A1 n1 c1] 24, .rows 2 36 Aa0_ (n0) ca0_ vsa0_ (x0)] from st)
         clear st bel own
         have hSav_a0_0 := (Sav.out.blk (i := 0) rfl).cell (i := 0) rfl
         have hSav_a1_0 := (Sav.out.blk (i := 1) rfl).cell (i := 0) rfl)
    | (go_simp; go_at_call 35
       refine (to_any _ HX2.out (HA2.out.keep Sbv.out.below) hb2).mono ?_
       rintro e wDv ⟨Aa2_, ca2_, rfl, own, bel⟩
       have Scv := Lib.hid (show St w wDv [.blk (w.heap.size) #[.slice A0 n0 c0] 24, .blk (w.heap.size + 1) #[.slice A1 n1 c1] 24, .rows 2 36 Aa0_ (n0) ca0_ vsa0_ (x0), .rows 2 36 Aa1_ (n1) ca1_ vsa1_ (x1), .own 2 Aa2_ (n2) ca2_ (ints (x2))] from Sbv.out.addOwn bel own (Nat.le_refl _))
       clear bel own
       have hScv_a0_0 := (Scv.out.blk (i := 0) rfl).cell (i := 0) rfl
       have hScv_a1_0 := (Scv.out.blk (i := 1) rfl).cell (i := 0) rfl)
    | (go_simp; go_at_call 46
       refine (sFaceMap_any k3 _ HX0.out (ownSS_rd (Scv.out.sep.ownSS (i := 2) rfl)) hb0 HR0.out HX1.out (ownSS_rd (Scv.out.sep.ownSS (i := 3) rfl)) hb1 HR1.out HX2.out (own_rd (Scv.out.own (i := 4) rfl)) hb2).mono ?_
       rintro e wCv ⟨Av, cv, rfl, own, bel⟩
       have S3 := Lib.hid (show St w wCv [.blk (w.heap.size) #[.slice A0 n0 c0] 24, .blk (w.heap.size + 1) #[.slice A1 n1 c1] 24, .rows 2 36 Aa0_ (n0) ca0_ vsa0_ (x0), .rows 2 36 Aa1_ (n1) ca1_ vsa1_ (x1), .own 2 Aa2_ (n2) ca2_ (ints (x2)), .own 2 Av ((fmR7 x0 x1 x2 k3).length) cv (ints (fmR7 x0 x1 x2 k3))] from Scv.out.addOwn bel own (Nat.le_refl _))
       clear bel own)))
  all_goals
    clear S2 Sdv Sav Sbv Scv hSav_a0_0 hSav_a1_0 hSbv_a0_0 hSbv_a1_0 hScv_a0_0 hScv_a1_0
    clear h_a0_0 h_a1_0
    have S4 := Lib.hid (show St w wCv [.blk (w.heap.size) #[.slice A0 n0 c0] 24, .blk (w.heap.size + 1) #[.slice A1 n1 c1] 24, .rows 2 36 Aa1_ (n1) ca1_ vsa1_ (x1), .own 2 Aa2_ (n2) ca2_ (ints (x2)), .own 2 Av ((fmR7 x0 x1 x2 k3).length) cv (ints (fmR7 x0 x1 x2 k3))] from S3.out.drop 2)
    clear S3
    have S5 := Lib.hid (show St w wCv [.blk (w.heap.size) #[.slice A0 n0 c0] 24, .blk (w.heap.size + 1) #[.slice A1 n1 c1] 24, .own 2 Aa2_ (n2) ca2_ (ints (x2)), .own 2 Av ((fmR7 x0 x1 x2 k3).length) cv (ints (fmR7 x0 x1 x2 k3))] from S4.out.drop 2)
    clear S4
    have S6 := Lib.hid (show St w wCv [.blk (w.heap.size) #[.slice A0 n0 c0] 24, .blk (w.heap.size + 1) #[.slice A1 n1 c1] 24, .own 2 Av ((fmR7 x0 x1 x2 k3).length) cv (ints (fmR7 x0 x1 x2 k3))] from S5.out.drop 2)
    clear S5
    have h_a0_0 := (S6.out.blk (i := 0) rfl).cell (i := 0) rfl
    have h_a1_0 := (S6.out.blk (i := 1) rfl).cell (i := 0) rfl
    go_wp2_with fail
    clear h_a0_0 h_a1_0
    refine (toM_any _ HX0.out (HA0.out.keep S6.out.below) hb0 HR0.out).mono ?_
    rintro e w3 ⟨Ay0, cy0, rfl, own, bel⟩
    obtain ⟨vsy0, st⟩ := S6.out.addRows bel own (Nat.le_refl _) (Nat.le_refl _)
    have S7 := Lib.hid (show St w w3 [.blk (w.heap.size) #[.slice A0 n0 c0] 24, .blk (w.heap.size + 1) #[.slice A1 n1 c1] 24, .own 2 Av ((fmR7 x0 x1 x2 k3).length) cv (ints (fmR7 x0 x1 x2 k3)), .rows 2 36 Ay0 (n0) cy0 vsy0 (x0)] from st)
    clear S6
    clear st bel own
    have S8 := Lib.hid (show St w (w3.alloc (.cells #[.slice Ay0 n0 cy0] 27)) [.blk (w.heap.size) #[.slice A0 n0 c0] 24, .blk (w.heap.size + 1) #[.slice A1 n1 c1] 24, .own 2 Av ((fmR7 x0 x1 x2 k3).length) cv (ints (fmR7 x0 x1 x2 k3)), .rows 2 36 Ay0 (n0) cy0 vsy0 (x0), .blk w3.heap.size #[.slice Ay0 n0 cy0] 27] from S7.out.addBlk #[.slice Ay0 n0 cy0] 27)
    clear S7
    have h_a0_0 := (S8.out.blk (i := 0) rfl).cell (i := 0) rfl
    have h_a1_0 := (S8.out.blk (i := 1) rfl).cell (i := 0) rfl
    have h_x0_0 := (S8.out.blk (i := 4) rfl).cell (i := 0) rfl
    go_wp2_with fail
    clear h_a0_0 h_a1_0 h_x0_0
    refine (toM_any _ HX1.out (HA1.out.keep S8.out.below) hb1 HR1.out).mono ?_
    rintro e w4 ⟨Ay1, cy1, rfl, own, bel⟩
    obtain ⟨vsy1, st⟩ := S8.out.addRows bel own (Nat.le_refl _) (Nat.le_refl _)
    have S9 := Lib.hid (show St w w4 [.blk (w.heap.size) #[.slice A0 n0 c0] 24, .blk (w.heap.size + 1) #[.slice A1 n1 c1] 24, .own 2 Av ((fmR7 x0 x1 x2 k3).length) cv (ints (fmR7 x0 x1 x2 k3)), .rows 2 36 Ay0 (n0) cy0 vsy0 (x0), .blk w3.heap.size #[.slice Ay0 n0 cy0] 27, .rows 2 36 Ay1 (n1) cy1 vsy1 (x1)] from st)
    clear S8
    clear st bel own
    have S10 := Lib.hid (show St w (w4.alloc (.cells #[.slice Ay1 n1 cy1] 27)) [.blk (w.heap.size) #[.slice A0 n0 c0] 24, .blk (w.heap.size + 1) #[.slice A1 n1 c1] 24, .own 2 Av ((fmR7 x0 x1 x2 k3).length) cv (ints (fmR7 x0 x1 x2 k3)), .rows 2 36 Ay0 (n0) cy0 vsy0 (x0), .blk w3.heap.size #[.slice Ay0 n0 cy0] 27, .rows 2 36 Ay1 (n1) cy1 vsy1 (x1), .blk w4.heap.size #[.slice Ay1 n1 cy1] 27] from S9.out.addBlk #[.slice Ay1 n1 cy1] 27)
    clear S9
    have h_a0_0 := (S10.out.blk (i := 0) rfl).cell (i := 0) rfl
    have h_a1_0 := (S10.out.blk (i := 1) rfl).cell (i := 0) rfl
    have h_x0_0 := (S10.out.blk (i := 4) rfl).cell (i := 0) rfl
    have h_x1_0 := (S10.out.blk (i := 6) rfl).cell (i := 0) rfl
    go_wp2_with fail
    clear h_a0_0 h_a1_0 h_x0_0 h_x1_0
    refine (to_any _ HX2.out (HA2.out.keep S10.out.below) hb2).mono ?_
    rintro e w5 ⟨Ay2, cy2, rfl, own, bel⟩
    have S11 := Lib.hid (show St w w5 [.blk (w.heap.size) #[.slice A0 n0 c0] 24, .blk (w.heap.size + 1) #[.slice A1 n1 c1] 24, .own 2 Av ((fmR7 x0 x1 x2 k3).length) cv (ints (fmR7 x0 x1 x2 k3)), .rows 2 36 Ay0 (n0) cy0 vsy0 (x0), .blk w3.heap.size #[.slice Ay0 n0 cy0] 27, .rows 2 36 Ay1 (n1) cy1 vsy1 (x1), .blk w4.heap.size #[.slice Ay1 n1 cy1] 27, .own 2 Ay2 (n2) cy2 (ints (x2))] from S10.out.addOwn bel own (Nat.le_refl _))
    clear S10
    clear bel own
    have h_a0_0 := (S11.out.blk (i := 0) rfl).cell (i := 0) rfl
    have h_a1_0 := (S11.out.blk (i := 1) rfl).cell (i := 0) rfl
    have h_x0_0 := (S11.out.blk (i := 4) rfl).cell (i := 0) rfl
    have h_x1_0 := (S11.out.blk (i := 6) rfl).cell (i := 0) rfl
    go_wp2_with fail
    clear h_a0_0 h_a1_0 h_x0_0 h_x1_0
    refine (iFaceMap_any k3 _ HX0.out (ownSS_rd (S11.out.sep.ownSS (i := 3) rfl)) hb0 HR0.out (ownSS_cap (S11.out.sep.ownSS (i := 3) rfl)).1 (ownSS_cap (S11.out.sep.ownSS (i := 3) rfl)).2 HX1.out (ownSS_rd (S11.out.sep.ownSS (i := 5) rfl)) hb1 HR1.out (ownSS_cap (S11.out.sep.ownSS (i := 5) rfl)).1 (ownSS_cap (S11.out.sep.ownSS (i := 5) rfl)).2 HX2.out (own_rd (S11.out.own (i := 7) rfl)) hb2).mono ?_
    rintro e w6 ⟨Ag, cg, rfl, own, bel⟩
    have S12 := Lib.hid (show St w w6 [.blk (w.heap.size) #[.slice A0 n0 c0] 24, .blk (w.heap.size + 1) #[.slice A1 n1 c1] 24, .own 2 Av ((fmR7 x0 x1 x2 k3).length) cv (ints (fmR7 x0 x1 x2 k3)), .rows 2 36 Ay0 (n0) cy0 vsy0 (x0), .blk w3.heap.size #[.slice Ay0 n0 cy0] 27, .rows 2 36 Ay1 (n1) cy1 vsy1 (x1), .blk w4.heap.size #[.slice Ay1 n1 cy1] 27, .own 2 Ay2 (n2) cy2 (ints (x2)), .own 2 Ag ((fmR7 x0 x1 x2 k3).length) cg (ints (fmR7 x0 x1 x2 k3))] from S11.out.addOwn bel own (Nat.le_refl _))
    clear S11
    clear bel own
    have hlen : (fmR7 x0 x1 x2 k3).length ≤ 1048576 := fmR7_le _ _ _ _
    have h_a0_0 := (S12.out.blk (i := 0) rfl).cell (i := 0) rfl
    have h_a1_0 := (S12.out.blk (i := 1) rfl).cell (i := 0) rfl
    have h_x0_0 := (S12.out.blk (i := 4) rfl).cell (i := 0) rfl
    have h_x1_0 := (S12.out.blk (i := 6) rfl).cell (i := 0) rfl
    go_wp2_with fail
    clear h_a0_0 h_a1_0 h_x0_0 h_x1_0
    refine (eq_same _ rfl rfl (own_rd (S12.out.own (i := 8) rfl)) (own_rd (S12.out.own (i := 2) rfl)) (by omega)).mono ?_
    rintro e w7 ⟨rfl, bel⟩
    have S13 := Lib.hid (show St w w7 [.blk (w.heap.size) #[.slice A0 n0 c0] 24, .blk (w.heap.size + 1) #[.slice A1 n1 c1] 24, .own 2 Av ((fmR7 x0 x1 x2 k3).length) cv (ints (fmR7 x0 x1 x2 k3)), .rows 2 36 Ay0 (n0) cy0 vsy0 (x0), .blk w3.heap.size #[.slice Ay0 n0 cy0] 27, .rows 2 36 Ay1 (n1) cy1 vsy1 (x1), .blk w4.heap.size #[.slice Ay1 n1 cy1] 27, .own 2 Ay2 (n2) cy2 (ints (x2)), .own 2 Ag ((fmR7 x0 x1 x2 k3).length) cg (ints (fmR7 x0 x1 x2 k3))] from S12.out.go bel)
    clear S12
    clear bel
    have HAK := Lib.hid (HA0.out.keep S13.out.below)
    have HOK := Lib.hid (ownSS_rd (S13.out.sep.ownSS (i := 3) rfl))
    have h_a0_0 := (S13.out.blk (i := 0) rfl).cell (i := 0) rfl
    have h_a1_0 := (S13.out.blk (i := 1) rfl).cell (i := 0) rfl
    have h_x0_0 := (S13.out.blk (i := 4) rfl).cell (i := 0) rfl
    have h_x1_0 := (S13.out.blk (i := 6) rfl).cell (i := 0) rfl
    go_wp2_with fail
    go_region_held3 (fun w' => Below w7.heap.size w7 w' ∧ w'.cell? ⟨w.heap.size, 0, none⟩ = some (.slice A0 n0 c0) ∧ w'.cell? ⟨w3.heap.size, 0, none⟩ = some (.slice Ay0 n0 cy0)) (first | (exact ⟨below_drewN (Below.refl _ _) 1, h_a0_0, h_x0_0⟩) | (exact q))
      (first
        | (go_at_call 19
           refine (toM_any _ HX0.out (rd_s3 HAK.out (by assumption)) hb0 HR0.out).mono ?_
           rintro e wc ⟨A6, c6, rfl, own, bel⟩
           have q := s3_go (by assumption) bel)
        | (go_at_call 22
           refine (eqM_same _ HX0.out HX0.out (rd_s3 HOK.out (by assumption)) (ownSS_rd own) (by omega)).mono ?_
           rintro e w8 ⟨rfl, bel2⟩
           have q := s3_go (by assumption) bel2))
    clear h_a0_0 h_a1_0 h_x0_0 h_x1_0
    have S14 := Lib.hid (show St w w8 [.blk (w.heap.size) #[.slice A0 n0 c0] 24, .blk (w.heap.size + 1) #[.slice A1 n1 c1] 24, .own 2 Av ((fmR7 x0 x1 x2 k3).length) cv (ints (fmR7 x0 x1 x2 k3)), .rows 2 36 Ay0 (n0) cy0 vsy0 (x0), .blk w3.heap.size #[.slice Ay0 n0 cy0] 27, .rows 2 36 Ay1 (n1) cy1 vsy1 (x1), .blk w4.heap.size #[.slice Ay1 n1 cy1] 27, .own 2 Ay2 (n2) cy2 (ints (x2)), .own 2 Ag ((fmR7 x0 x1 x2 k3).length) cg (ints (fmR7 x0 x1 x2 k3))] from S13.out.go q.1)
    clear S13
    clear HAK HOK q own
    have HAK := Lib.hid (HA1.out.keep S14.out.below)
    have HOK := Lib.hid (ownSS_rd (S14.out.sep.ownSS (i := 5) rfl))
    have h_a0_0 := (S14.out.blk (i := 0) rfl).cell (i := 0) rfl
    have h_a1_0 := (S14.out.blk (i := 1) rfl).cell (i := 0) rfl
    have h_x0_0 := (S14.out.blk (i := 4) rfl).cell (i := 0) rfl
    have h_x1_0 := (S14.out.blk (i := 6) rfl).cell (i := 0) rfl
    go_wp2_with fail
    go_region_held3 (fun w' => Below w8.heap.size w8 w' ∧ w'.cell? ⟨w.heap.size + 1, 0, none⟩ = some (.slice A1 n1 c1) ∧ w'.cell? ⟨w4.heap.size, 0, none⟩ = some (.slice Ay1 n1 cy1)) (first | (exact ⟨below_drewN (Below.refl _ _) 1, h_a1_0, h_x1_0⟩) | (exact q))
      (first
        | (go_at_call 19
           refine (toM_any _ HX1.out (rd_s3 HAK.out (by assumption)) hb1 HR1.out).mono ?_
           rintro e wc ⟨A6, c6, rfl, own, bel⟩
           have q := s3_go (by assumption) bel)
        | (go_at_call 22
           refine (eqM_same _ HX1.out HX1.out (rd_s3 HOK.out (by assumption)) (ownSS_rd own) (by omega)).mono ?_
           rintro e w9 ⟨rfl, bel2⟩
           have q := s3_go (by assumption) bel2))
    clear h_a0_0 h_a1_0 h_x0_0 h_x1_0
    have S15 := Lib.hid (show St w w9 [.blk (w.heap.size) #[.slice A0 n0 c0] 24, .blk (w.heap.size + 1) #[.slice A1 n1 c1] 24, .own 2 Av ((fmR7 x0 x1 x2 k3).length) cv (ints (fmR7 x0 x1 x2 k3)), .rows 2 36 Ay0 (n0) cy0 vsy0 (x0), .blk w3.heap.size #[.slice Ay0 n0 cy0] 27, .rows 2 36 Ay1 (n1) cy1 vsy1 (x1), .blk w4.heap.size #[.slice Ay1 n1 cy1] 27, .own 2 Ay2 (n2) cy2 (ints (x2)), .own 2 Ag ((fmR7 x0 x1 x2 k3).length) cg (ints (fmR7 x0 x1 x2 k3))] from S14.out.go q.1)
    clear S14
    clear HAK HOK q own
    have h_a0_0 := (S15.out.blk (i := 0) rfl).cell (i := 0) rfl
    have h_a1_0 := (S15.out.blk (i := 1) rfl).cell (i := 0) rfl
    have h_x0_0 := (S15.out.blk (i := 4) rfl).cell (i := 0) rfl
    have h_x1_0 := (S15.out.blk (i := 6) rfl).cell (i := 0) rfl
    go_wp2_with fail
    clear h_a0_0 h_a1_0 h_x0_0 h_x1_0
    refine (to_any _ HX2.out (HA2.out.keep S15.out.below) hb2).mono ?_
    rintro e w10 ⟨Az2, cz2, rfl, own, bel⟩
    have S16 := Lib.hid (show St w w10 [.blk (w.heap.size) #[.slice A0 n0 c0] 24, .blk (w.heap.size + 1) #[.slice A1 n1 c1] 24, .own 2 Av ((fmR7 x0 x1 x2 k3).length) cv (ints (fmR7 x0 x1 x2 k3)), .rows 2 36 Ay0 (n0) cy0 vsy0 (x0), .blk w3.heap.size #[.slice Ay0 n0 cy0] 27, .rows 2 36 Ay1 (n1) cy1 vsy1 (x1), .blk w4.heap.size #[.slice Ay1 n1 cy1] 27, .own 2 Ay2 (n2) cy2 (ints (x2)), .own 2 Ag ((fmR7 x0 x1 x2 k3).length) cg (ints (fmR7 x0 x1 x2 k3)), .own 2 Az2 (n2) cz2 (ints (x2))] from S15.out.addOwn bel own (Nat.le_refl _))
    clear S15
    clear bel own
    have h_a0_0 := (S16.out.blk (i := 0) rfl).cell (i := 0) rfl
    have h_a1_0 := (S16.out.blk (i := 1) rfl).cell (i := 0) rfl
    have h_x0_0 := (S16.out.blk (i := 4) rfl).cell (i := 0) rfl
    have h_x1_0 := (S16.out.blk (i := 6) rfl).cell (i := 0) rfl
    go_wp2_with fail
    clear h_a0_0 h_a1_0 h_x0_0 h_x1_0
    refine (eq_same _ HX2.out HX2.out (own_rd (S16.out.own (i := 7) rfl)) (own_rd (S16.out.own (i := 9) rfl)) (by omega)).mono ?_
    rintro e w11 ⟨rfl, bel⟩
    have S17 := Lib.hid (show St w w11 [.blk (w.heap.size) #[.slice A0 n0 c0] 24, .blk (w.heap.size + 1) #[.slice A1 n1 c1] 24, .own 2 Av ((fmR7 x0 x1 x2 k3).length) cv (ints (fmR7 x0 x1 x2 k3)), .rows 2 36 Ay0 (n0) cy0 vsy0 (x0), .blk w3.heap.size #[.slice Ay0 n0 cy0] 27, .rows 2 36 Ay1 (n1) cy1 vsy1 (x1), .blk w4.heap.size #[.slice Ay1 n1 cy1] 27, .own 2 Ay2 (n2) cy2 (ints (x2)), .own 2 Ag ((fmR7 x0 x1 x2 k3).length) cg (ints (fmR7 x0 x1 x2 k3)), .own 2 Az2 (n2) cz2 (ints (x2))] from S16.out.go bel)
    clear S16
    clear bel
    have S18 := Lib.hid (show St w w11 [.blk (w.heap.size) #[.slice A0 n0 c0] 24, .blk (w.heap.size + 1) #[.slice A1 n1 c1] 24, .own 2 Av ((fmR7 x0 x1 x2 k3).length) cv (ints (fmR7 x0 x1 x2 k3)), .rows 2 36 Ay0 (n0) cy0 vsy0 (x0), .blk w3.heap.size #[.slice Ay0 n0 cy0] 27, .rows 2 36 Ay1 (n1) cy1 vsy1 (x1), .blk w4.heap.size #[.slice Ay1 n1 cy1] 27, .own 2 Ay2 (n2) cy2 (ints (x2)), .own 2 Ag ((fmR7 x0 x1 x2 k3).length) cg (ints (fmR7 x0 x1 x2 k3))] from S17.out.drop 9)
    clear S17
    have ht0 := totalL_le HR0.out x0.length
    rw [List.take_length, HX0.out] at ht0
    have ht1 := totalL_le HR1.out x1.length
    rw [List.take_length, HX1.out] at ht1
    have h_a0_0 := (S18.out.blk (i := 0) rfl).cell (i := 0) rfl
    have h_a1_0 := (S18.out.blk (i := 1) rfl).cell (i := 0) rfl
    have h_x0_0 := (S18.out.blk (i := 4) rfl).cell (i := 0) rfl
    have h_x1_0 := (S18.out.blk (i := 6) rfl).cell (i := 0) rfl
    go_wp2_with fail
    clear h_a0_0 h_a1_0 h_x0_0 h_x1_0
    refine (markM_st (1) _ S18.out (i := 3) rfl (by decide) hb0 HR0.out (by omega) (by omega)).mono ?_
    rintro e w12 ⟨rfl, st⟩
    have S19 := Lib.hid (show St w w12 [.blk (w.heap.size) #[.slice A0 n0 c0] 24, .blk (w.heap.size + 1) #[.slice A1 n1 c1] 24, .own 2 Av ((fmR7 x0 x1 x2 k3).length) cv (ints (fmR7 x0 x1 x2 k3)), .rows 2 36 Ay0 (n0) cy0 vsy0 (marksSS (1) x0), .blk w3.heap.size #[.slice Ay0 n0 cy0] 27, .rows 2 36 Ay1 (n1) cy1 vsy1 (x1), .blk w4.heap.size #[.slice Ay1 n1 cy1] 27, .own 2 Ay2 (n2) cy2 (ints (x2)), .own 2 Ag ((fmR7 x0 x1 x2 k3).length) cg (ints (fmR7 x0 x1 x2 k3))] from st)
    clear S18
    clear st
    have h_a0_0 := (S19.out.blk (i := 0) rfl).cell (i := 0) rfl
    have h_a1_0 := (S19.out.blk (i := 1) rfl).cell (i := 0) rfl
    have h_x0_0 := (S19.out.blk (i := 4) rfl).cell (i := 0) rfl
    have h_x1_0 := (S19.out.blk (i := 6) rfl).cell (i := 0) rfl
    go_wp2_with fail
    clear h_a0_0 h_a1_0 h_x0_0 h_x1_0
    refine (markM_st (1 + (totalL x0 : Int)) _ S19.out (i := 5) rfl (by decide) hb1 HR1.out (by omega) (by omega)).mono ?_
    rintro e w13 ⟨rfl, st⟩
    have S20 := Lib.hid (show St w w13 [.blk (w.heap.size) #[.slice A0 n0 c0] 24, .blk (w.heap.size + 1) #[.slice A1 n1 c1] 24, .own 2 Av ((fmR7 x0 x1 x2 k3).length) cv (ints (fmR7 x0 x1 x2 k3)), .rows 2 36 Ay0 (n0) cy0 vsy0 (marksSS (1) x0), .blk w3.heap.size #[.slice Ay0 n0 cy0] 27, .rows 2 36 Ay1 (n1) cy1 vsy1 (marksSS (1 + (totalL x0 : Int)) x1), .blk w4.heap.size #[.slice Ay1 n1 cy1] 27, .own 2 Ay2 (n2) cy2 (ints (x2)), .own 2 Ag ((fmR7 x0 x1 x2 k3).length) cg (ints (fmR7 x0 x1 x2 k3))] from st)
    clear S19
    clear st
    have h_a0_0 := (S20.out.blk (i := 0) rfl).cell (i := 0) rfl
    have h_a1_0 := (S20.out.blk (i := 1) rfl).cell (i := 0) rfl
    have h_x0_0 := (S20.out.blk (i := 4) rfl).cell (i := 0) rfl
    have h_x1_0 := (S20.out.blk (i := 6) rfl).cell (i := 0) rfl
    go_wp2_with fail
    clear h_a0_0 h_a1_0 h_x0_0 h_x1_0
    refine (mark_st (1 + (totalL x0 : Int) + (totalL x1 : Int)) _ S20.out (i := 7) rfl hb2 (by omega) (by omega)).mono ?_
    rintro e w14 ⟨rfl, st⟩
    have S21 := Lib.hid (show St w w14 [.blk (w.heap.size) #[.slice A0 n0 c0] 24, .blk (w.heap.size + 1) #[.slice A1 n1 c1] 24, .own 2 Av ((fmR7 x0 x1 x2 k3).length) cv (ints (fmR7 x0 x1 x2 k3)), .rows 2 36 Ay0 (n0) cy0 vsy0 (marksSS (1) x0), .blk w3.heap.size #[.slice Ay0 n0 cy0] 27, .rows 2 36 Ay1 (n1) cy1 vsy1 (marksSS (1 + (totalL x0 : Int)) x1), .blk w4.heap.size #[.slice Ay1 n1 cy1] 27, .own 2 Ay2 (n2) cy2 (ints (marks (1 + (totalL x0 : Int) + (totalL x1 : Int)) n2)), .own 2 Ag ((fmR7 x0 x1 x2 k3).length) cg (ints (fmR7 x0 x1 x2 k3))] from st)
    clear S20
    clear st
    have h_a0_0 := (S21.out.blk (i := 0) rfl).cell (i := 0) rfl
    have h_a1_0 := (S21.out.blk (i := 1) rfl).cell (i := 0) rfl
    have h_x0_0 := (S21.out.blk (i := 4) rfl).cell (i := 0) rfl
    have h_x1_0 := (S21.out.blk (i := 6) rfl).cell (i := 0) rfl
    go_wp2_with fail
    clear h_a0_0 h_a1_0 h_x0_0 h_x1_0
    refine (eq_same _ rfl rfl (own_rd (S21.out.own (i := 8) rfl)) (own_rd (S21.out.own (i := 2) rfl)) (by omega)).mono ?_
    rintro e w15 ⟨rfl, bel⟩
    have S22 := Lib.hid (show St w w15 [.blk (w.heap.size) #[.slice A0 n0 c0] 24, .blk (w.heap.size + 1) #[.slice A1 n1 c1] 24, .own 2 Av ((fmR7 x0 x1 x2 k3).length) cv (ints (fmR7 x0 x1 x2 k3)), .rows 2 36 Ay0 (n0) cy0 vsy0 (marksSS (1) x0), .blk w3.heap.size #[.slice Ay0 n0 cy0] 27, .rows 2 36 Ay1 (n1) cy1 vsy1 (marksSS (1 + (totalL x0 : Int)) x1), .blk w4.heap.size #[.slice Ay1 n1 cy1] 27, .own 2 Ay2 (n2) cy2 (ints (marks (1 + (totalL x0 : Int) + (totalL x1 : Int)) n2)), .own 2 Ag ((fmR7 x0 x1 x2 k3).length) cg (ints (fmR7 x0 x1 x2 k3))] from S21.out.go bel)
    clear S21
    clear bel
    have h_a0_0 := (S22.out.blk (i := 0) rfl).cell (i := 0) rfl
    have h_a1_0 := (S22.out.blk (i := 1) rfl).cell (i := 0) rfl
    have h_x0_0 := (S22.out.blk (i := 4) rfl).cell (i := 0) rfl
    have h_x1_0 := (S22.out.blk (i := 6) rfl).cell (i := 0) rfl
    go_wp2_with fail
    clear h_a0_0 h_a1_0 h_x0_0 h_x1_0
    refine (mark_st 1 _ S22.out (i := 8) rfl hlen (by omega) (by omega)).mono ?_
    rintro e w16 ⟨rfl, st⟩
    have S23 := Lib.hid (show St w w16 [.blk (w.heap.size) #[.slice A0 n0 c0] 24, .blk (w.heap.size + 1) #[.slice A1 n1 c1] 24, .own 2 Av ((fmR7 x0 x1 x2 k3).length) cv (ints (fmR7 x0 x1 x2 k3)), .rows 2 36 Ay0 (n0) cy0 vsy0 (marksSS (1) x0), .blk w3.heap.size #[.slice Ay0 n0 cy0] 27, .rows 2 36 Ay1 (n1) cy1 vsy1 (marksSS (1 + (totalL x0 : Int)) x1), .blk w4.heap.size #[.slice Ay1 n1 cy1] 27, .own 2 Ay2 (n2) cy2 (ints (marks (1 + (totalL x0 : Int) + (totalL x1 : Int)) n2)), .own 2 Ag ((fmR7 x0 x1 x2 k3).length) cg (ints (marks 1 (fmR7 x0 x1 x2 k3).length))] from st)
    clear S22
    clear st
    have h_a0_0 := (S23.out.blk (i := 0) rfl).cell (i := 0) rfl
    have h_a1_0 := (S23.out.blk (i := 1) rfl).cell (i := 0) rfl
    have h_x0_0 := (S23.out.blk (i := 4) rfl).cell (i := 0) rfl
    have h_x1_0 := (S23.out.blk (i := 6) rfl).cell (i := 0) rfl
    go_wp2_with fail
    clear h_a0_0 h_a1_0 h_x0_0 h_x1_0
    refine (held_any 1 _ (own_rd (S23.out.own (i := 8) rfl)) hlen (by omega) (by omega)).mono ?_
    rintro e wz ⟨rfl, rfl⟩
    have Sdh := Lib.hid (S23.out.go (below_drewN (Below.refl _ _) 1))
    have h_a0_0 := (S23.out.blk (i := 0) rfl).cell (i := 0) rfl
    have h_a1_0 := (S23.out.blk (i := 1) rfl).cell (i := 0) rfl
    have h_x0_0 := (S23.out.blk (i := 4) rfl).cell (i := 0) rfl
    have h_x1_0 := (S23.out.blk (i := 6) rfl).cell (i := 0) rfl
    go_wp2
    go_region_law ((first
      | (go_simp; go_at_call 19
         first
         | refine (toM_any _ HX1.out (HA1.out.keep Sah.out.below) hb1 HR1.out).mono ?_
           rintro e wBh ⟨Ab1_, cb1_, rfl, own, bel⟩
           obtain ⟨vsb1_, st⟩ := Sah.out.addRows bel own (Nat.le_refl _) (Nat.le_refl _)
           have Sbh := Lib.hid (show St w wBh [.blk (w.heap.size) #[.slice A0 n0 c0] 24, .blk (w.heap.size + 1) #[.slice A1 n1 c1] 24, .own 2 Av ((fmR7 x0 x1 x2 k3).length) cv (ints (fmR7 x0 x1 x2 k3)), .rows 2 36 Ay0 (n0) cy0 vsy0 (marksSS (1) x0), .blk w3.heap.size #[.slice Ay0 n0 cy0] 27, .rows 2 36 Ay1 (n1) cy1 vsy1 (marksSS (1 + (totalL x0 : Int)) x1), .blk w4.heap.size #[.slice Ay1 n1 cy1] 27, .own 2 Ay2 (n2) cy2 (ints (marks (1 + (totalL x0 : Int) + (totalL x1 : Int)) n2)), .own 2 Ag ((fmR7 x0 x1 x2 k3).length) cg (ints (marks 1 (fmR7 x0 x1 x2 k3).length)), .rows 2 36 Ab0_ (n0) cb0_ vsb0_ (x0), .rows 2 36 Ab1_ (n1) cb1_ vsb1_ (x1)] from st)
           clear st bel own
           have hSbh_a0_0 := (Sbh.out.blk (i := 0) rfl).cell (i := 0) rfl
           have hSbh_a1_0 := (Sbh.out.blk (i := 1) rfl).cell (i := 0) rfl
           have hSbh_x0_0 := (Sbh.out.blk (i := 4) rfl).cell (i := 0) rfl
           have hSbh_x1_0 := (Sbh.out.blk (i := 6) rfl).cell (i := 0) rfl
         | refine (toM_any _ HX0.out (HA0.out.keep Sdh.out.below) hb0 HR0.out).mono ?_
           rintro e wAh ⟨Ab0_, cb0_, rfl, own, bel⟩
           obtain ⟨vsb0_, st⟩ := Sdh.out.addRows bel own (Nat.le_refl _) (Nat.le_refl _)
           have Sah := Lib.hid (show St w wAh [.blk (w.heap.size) #[.slice A0 n0 c0] 24, .blk (w.heap.size + 1) #[.slice A1 n1 c1] 24, .own 2 Av ((fmR7 x0 x1 x2 k3).length) cv (ints (fmR7 x0 x1 x2 k3)), .rows 2 36 Ay0 (n0) cy0 vsy0 (marksSS (1) x0), .blk w3.heap.size #[.slice Ay0 n0 cy0] 27, .rows 2 36 Ay1 (n1) cy1 vsy1 (marksSS (1 + (totalL x0 : Int)) x1), .blk w4.heap.size #[.slice Ay1 n1 cy1] 27, .own 2 Ay2 (n2) cy2 (ints (marks (1 + (totalL x0 : Int) + (totalL x1 : Int)) n2)), .own 2 Ag ((fmR7 x0 x1 x2 k3).length) cg (ints (marks 1 (fmR7 x0 x1 x2 k3).length)), .rows 2 36 Ab0_ (n0) cb0_ vsb0_ (x0)] from st)
           clear st bel own
           have hSah_a0_0 := (Sah.out.blk (i := 0) rfl).cell (i := 0) rfl
           have hSah_a1_0 := (Sah.out.blk (i := 1) rfl).cell (i := 0) rfl
           have hSah_x0_0 := (Sah.out.blk (i := 4) rfl).cell (i := 0) rfl
           have hSah_x1_0 := (Sah.out.blk (i := 6) rfl).cell (i := 0) rfl)
      | (go_simp; go_at_call 35
         refine (to_any _ HX2.out (HA2.out.keep Sbh.out.below) hb2).mono ?_
         rintro e wDh ⟨Ab2_, cb2_, rfl, own, bel⟩
         have Sch := Lib.hid (show St w wDh [.blk (w.heap.size) #[.slice A0 n0 c0] 24, .blk (w.heap.size + 1) #[.slice A1 n1 c1] 24, .own 2 Av ((fmR7 x0 x1 x2 k3).length) cv (ints (fmR7 x0 x1 x2 k3)), .rows 2 36 Ay0 (n0) cy0 vsy0 (marksSS (1) x0), .blk w3.heap.size #[.slice Ay0 n0 cy0] 27, .rows 2 36 Ay1 (n1) cy1 vsy1 (marksSS (1 + (totalL x0 : Int)) x1), .blk w4.heap.size #[.slice Ay1 n1 cy1] 27, .own 2 Ay2 (n2) cy2 (ints (marks (1 + (totalL x0 : Int) + (totalL x1 : Int)) n2)), .own 2 Ag ((fmR7 x0 x1 x2 k3).length) cg (ints (marks 1 (fmR7 x0 x1 x2 k3).length)), .rows 2 36 Ab0_ (n0) cb0_ vsb0_ (x0), .rows 2 36 Ab1_ (n1) cb1_ vsb1_ (x1), .own 2 Ab2_ (n2) cb2_ (ints (x2))] from Sbh.out.addOwn bel own (Nat.le_refl _))
         clear bel own
         have hSch_a0_0 := (Sch.out.blk (i := 0) rfl).cell (i := 0) rfl
         have hSch_a1_0 := (Sch.out.blk (i := 1) rfl).cell (i := 0) rfl
         have hSch_x0_0 := (Sch.out.blk (i := 4) rfl).cell (i := 0) rfl
         have hSch_x1_0 := (Sch.out.blk (i := 6) rfl).cell (i := 0) rfl)
      | (go_simp; go_at_call 47
         refine (iFaceMap_any k3 _ HX0.out (ownSS_rd (Sch.out.sep.ownSS (i := 9) rfl)) hb0 HR0.out (ownSS_cap (Sch.out.sep.ownSS (i := 9) rfl)).1 (ownSS_cap (Sch.out.sep.ownSS (i := 9) rfl)).2 HX1.out (ownSS_rd (Sch.out.sep.ownSS (i := 10) rfl)) hb1 HR1.out (ownSS_cap (Sch.out.sep.ownSS (i := 10) rfl)).1 (ownSS_cap (Sch.out.sep.ownSS (i := 10) rfl)).2 HX2.out (own_rd (Sch.out.own (i := 11) rfl)) hb2).mono ?_
         rintro e wCh ⟨Ah, ch, rfl, own, bel⟩
         have S24 := Lib.hid (show St w wCh [.blk (w.heap.size) #[.slice A0 n0 c0] 24, .blk (w.heap.size + 1) #[.slice A1 n1 c1] 24, .own 2 Av ((fmR7 x0 x1 x2 k3).length) cv (ints (fmR7 x0 x1 x2 k3)), .rows 2 36 Ay0 (n0) cy0 vsy0 (marksSS (1) x0), .blk w3.heap.size #[.slice Ay0 n0 cy0] 27, .rows 2 36 Ay1 (n1) cy1 vsy1 (marksSS (1 + (totalL x0 : Int)) x1), .blk w4.heap.size #[.slice Ay1 n1 cy1] 27, .own 2 Ay2 (n2) cy2 (ints (marks (1 + (totalL x0 : Int) + (totalL x1 : Int)) n2)), .own 2 Ag ((fmR7 x0 x1 x2 k3).length) cg (ints (marks 1 (fmR7 x0 x1 x2 k3).length)), .rows 2 36 Ab0_ (n0) cb0_ vsb0_ (x0), .rows 2 36 Ab1_ (n1) cb1_ vsb1_ (x1), .own 2 Ab2_ (n2) cb2_ (ints (x2)), .own 2 Ah ((fmR7 x0 x1 x2 k3).length) ch (ints (fmR7 x0 x1 x2 k3))] from Sch.out.addOwn bel own (Nat.le_refl _))
         clear bel own)))
    all_goals
      clear S23 Sdh Sah Sbh Sch hSah_a0_0 hSah_a1_0 hSah_x0_0 hSah_x1_0 hSbh_a0_0 hSbh_a1_0 hSbh_x0_0 hSbh_x1_0 hSch_a0_0 hSch_a1_0 hSch_x0_0 hSch_x1_0
      clear h_a0_0 h_a1_0 h_x0_0 h_x1_0
      have S25 := Lib.hid (show St w wCh [.blk (w.heap.size) #[.slice A0 n0 c0] 24, .blk (w.heap.size + 1) #[.slice A1 n1 c1] 24, .own 2 Av ((fmR7 x0 x1 x2 k3).length) cv (ints (fmR7 x0 x1 x2 k3)), .rows 2 36 Ay0 (n0) cy0 vsy0 (marksSS (1) x0), .blk w3.heap.size #[.slice Ay0 n0 cy0] 27, .rows 2 36 Ay1 (n1) cy1 vsy1 (marksSS (1 + (totalL x0 : Int)) x1), .blk w4.heap.size #[.slice Ay1 n1 cy1] 27, .own 2 Ay2 (n2) cy2 (ints (marks (1 + (totalL x0 : Int) + (totalL x1 : Int)) n2)), .own 2 Ag ((fmR7 x0 x1 x2 k3).length) cg (ints (marks 1 (fmR7 x0 x1 x2 k3).length)), .rows 2 36 Ab1_ (n1) cb1_ vsb1_ (x1), .own 2 Ab2_ (n2) cb2_ (ints (x2)), .own 2 Ah ((fmR7 x0 x1 x2 k3).length) ch (ints (fmR7 x0 x1 x2 k3))] from S24.out.drop 9)
      clear S24
      have S26 := Lib.hid (show St w wCh [.blk (w.heap.size) #[.slice A0 n0 c0] 24, .blk (w.heap.size + 1) #[.slice A1 n1 c1] 24, .own 2 Av ((fmR7 x0 x1 x2 k3).length) cv (ints (fmR7 x0 x1 x2 k3)), .rows 2 36 Ay0 (n0) cy0 vsy0 (marksSS (1) x0), .blk w3.heap.size #[.slice Ay0 n0 cy0] 27, .rows 2 36 Ay1 (n1) cy1 vsy1 (marksSS (1 + (totalL x0 : Int)) x1), .blk w4.heap.size #[.slice Ay1 n1 cy1] 27, .own 2 Ay2 (n2) cy2 (ints (marks (1 + (totalL x0 : Int) + (totalL x1 : Int)) n2)), .own 2 Ag ((fmR7 x0 x1 x2 k3).length) cg (ints (marks 1 (fmR7 x0 x1 x2 k3).length)), .own 2 Ab2_ (n2) cb2_ (ints (x2)), .own 2 Ah ((fmR7 x0 x1 x2 k3).length) ch (ints (fmR7 x0 x1 x2 k3))] from S25.out.drop 9)
      clear S25
      have S27 := Lib.hid (show St w wCh [.blk (w.heap.size) #[.slice A0 n0 c0] 24, .blk (w.heap.size + 1) #[.slice A1 n1 c1] 24, .own 2 Av ((fmR7 x0 x1 x2 k3).length) cv (ints (fmR7 x0 x1 x2 k3)), .rows 2 36 Ay0 (n0) cy0 vsy0 (marksSS (1) x0), .blk w3.heap.size #[.slice Ay0 n0 cy0] 27, .rows 2 36 Ay1 (n1) cy1 vsy1 (marksSS (1 + (totalL x0 : Int)) x1), .blk w4.heap.size #[.slice Ay1 n1 cy1] 27, .own 2 Ay2 (n2) cy2 (ints (marks (1 + (totalL x0 : Int) + (totalL x1 : Int)) n2)), .own 2 Ag ((fmR7 x0 x1 x2 k3).length) cg (ints (marks 1 (fmR7 x0 x1 x2 k3).length)), .own 2 Ah ((fmR7 x0 x1 x2 k3).length) ch (ints (fmR7 x0 x1 x2 k3))] from S26.out.drop 9)
      clear S26
      have h_a0_0 := (S27.out.blk (i := 0) rfl).cell (i := 0) rfl
      have h_a1_0 := (S27.out.blk (i := 1) rfl).cell (i := 0) rfl
      have h_x0_0 := (S27.out.blk (i := 4) rfl).cell (i := 0) rfl
      have h_x1_0 := (S27.out.blk (i := 6) rfl).cell (i := 0) rfl
      go_wp2_with fail
      clear h_a0_0 h_a1_0 h_x0_0 h_x1_0
      refine (eq_same _ rfl rfl (own_rd (S27.out.own (i := 9) rfl)) (own_rd (S27.out.own (i := 2) rfl)) (by omega)).mono ?_
      rintro e w17 ⟨rfl, bel⟩
      have S28 := Lib.hid (show St w w17 [.blk (w.heap.size) #[.slice A0 n0 c0] 24, .blk (w.heap.size + 1) #[.slice A1 n1 c1] 24, .own 2 Av ((fmR7 x0 x1 x2 k3).length) cv (ints (fmR7 x0 x1 x2 k3)), .rows 2 36 Ay0 (n0) cy0 vsy0 (marksSS (1) x0), .blk w3.heap.size #[.slice Ay0 n0 cy0] 27, .rows 2 36 Ay1 (n1) cy1 vsy1 (marksSS (1 + (totalL x0 : Int)) x1), .blk w4.heap.size #[.slice Ay1 n1 cy1] 27, .own 2 Ay2 (n2) cy2 (ints (marks (1 + (totalL x0 : Int) + (totalL x1 : Int)) n2)), .own 2 Ag ((fmR7 x0 x1 x2 k3).length) cg (ints (marks 1 (fmR7 x0 x1 x2 k3).length)), .own 2 Ah ((fmR7 x0 x1 x2 k3).length) ch (ints (fmR7 x0 x1 x2 k3))] from S27.out.go bel)
      clear S27
      clear bel
      have h_a0_0 := (S28.out.blk (i := 0) rfl).cell (i := 0) rfl
      have h_a1_0 := (S28.out.blk (i := 1) rfl).cell (i := 0) rfl
      have h_x0_0 := (S28.out.blk (i := 4) rfl).cell (i := 0) rfl
      have h_x1_0 := (S28.out.blk (i := 6) rfl).cell (i := 0) rfl
      go_wp2_with fail
      clear h_a0_0 h_a1_0 h_x0_0 h_x1_0
      refine (held_any 1 _ (own_rd (S28.out.own (i := 8) rfl)) hlen (by omega) (by omega)).mono ?_
      rintro e wz ⟨rfl, rfl⟩
      have h_a0_0 := (S28.out.blk (i := 0) rfl).cell (i := 0) rfl
      have h_a1_0 := (S28.out.blk (i := 1) rfl).cell (i := 0) rfl
      have h_x0_0 := (S28.out.blk (i := 4) rfl).cell (i := 0) rfl
      have h_x1_0 := (S28.out.blk (i := 6) rfl).cell (i := 0) rfl
      go_wp2
      go_ret
      exact ⟨rfl, S28.out.below⟩

theorem walk_FnExactFaceMap (a0 : Option Addr) (len0 cap0 : Nat) (z0 : List (List Int)) (a1 : Option Addr) (len1 cap1 : Nat) (z1 : List (List Int)) (a2 : Option Addr) (len2 cap2 : Nat) (z2 : List Int) (a3 : Int) (w : World) (w0 : IsRows w a0 len0 z0) (w1 : IsRows w a1 len1 z1) (w2 : IsRow .i64 w a2 len2 cap2 z2) (w3 : (Lit.int .i64 a3).wf = true) :
    Calls Try.prog 11 #[.agg #[.slice a0 len0 cap0], .agg #[.slice a1 len1 cap1], .slice a2 len2 cap2, .int .i64 a3] w fun e w' => e = .returned (.bool true) ∧ Below w.heap.size w w' := by
  obtain ⟨hx0, ha0, hm0⟩ := w0
  obtain ⟨hx1, ha1, hm1⟩ := w1
  obtain ⟨x2, hx2, ha2, _, hm2⟩ := isRow_rd w2
  exact law_FaceMap w hx0 ha0 hm0 hx1 ha1 hm1 hx2 ha2 hm2 w3
end Go.Proofs.Ytmgoaabeopnopaa
