import Derived.Test.YtdhcklfpammhkaaPt
import Derived.Test.YtdhcklfpammhkaaPl
namespace Go.Proofs.Ytdhcklfpammhkaa
open Go.RowKit

set_option maxHeartbeats 6400000 in
set_option maxRecDepth 8000 in
theorem law_OppositePoset {R0 : Int} {A0 B0 : Option Addr} {c0 d0 : Nat} {x0 : List Int} {b0 : List (List Int)} (w : World) (ha0 : Rd w A0 (ints x0)) (hb0 : RdSS w B0 b0) (hm0 : x0.length ≤ maxLen) (hm1 : b0.length ≤ maxLen) :
    Calls Try.prog 23 #[.agg #[.int .i64 R0, .slice A0 x0.length c0, .slice B0 b0.length d0]] w fun e w' => e = .returned (.bool true) ∧ Below w.heap.size w w' := by
  unfold maxLen at hm0 hm1
  have HA0 := Lib.hid ha0
  have HB0 := Lib.hid hb0
  clear ha0 hb0
  have BX0 := Lib.hid (Bp.start w #[.int .i64 R0, .slice A0 x0.length c0, .slice B0 b0.length d0] 83)
  have hs0 : w.heap.size + 1 ≤ (w.alloc (.cells #[.int .i64 R0, .slice A0 x0.length c0, .slice B0 b0.length d0] 83)).heap.size := by simp
  go_enter Try.func23, Try.ntmps23
  have hbc0 := BX0.out.cell0
  have hbc1 := BX0.out.cell1
  have hbc2 := BX0.out.cell2
  go_wp2_with fail
  clear hbc0 hbc1 hbc2
  refine (szP_any _ rfl (HB0.out.al _) hm0 hm1).mono ?_
  rintro e w0 ⟨r, rfl, g0, g1, g2, bel⟩
  have s1 : (w.alloc (.cells #[.int .i64 R0, .slice A0 x0.length c0, .slice B0 b0.length d0] 83)).heap.size ≤ w0.heap.size := (bel).size
  have BX1 := Lib.hid (BX0.out.go bel)
  clear BX0 
  clear bel
  by_cases hneg : r < 0
  · clear g2
    go_wp2
    go_ret
    exact ⟨rfl, BX1.out.below⟩
  have hz := g2 (by omega)
  have hn0 := hz.1
  have hn1 := hz.2.1
  have HR0 := Lib.hid hz.2.2
  clear g2 hz
  have hbc0 := BX1.out.cell0
  have hbc1 := BX1.out.cell1
  have hbc2 := BX1.out.cell2
  go_wp2_with fail
  clear hbc0 hbc1 hbc2
  refine (toP_any _ rfl (HA0.out.keep BX1.out.below) rfl (HB0.out.keep BX1.out.below) hn0 hn1 HR0.out).mono ?_
  rintro e w1 ⟨Aa, ca, Ba, da, ma, rfl, mloa, mhia, own, pin, own2, bel⟩
  have s2 : w0.heap.size ≤ w1.heap.size := (bel).size
  have BX2 := Lib.hid (BX1.out.go bel)
  clear BX1 
  have Oar_1 := Lib.hid own
  have Par := Lib.hid (pin)
  have Oab_2 := Lib.hid own2
  clear bel own pin own2
  have hbc0 := BX2.out.cell0
  have hbc1 := BX2.out.cell1
  have hbc2 := BX2.out.cell2
  go_wp2_with fail
  clear hbc0 hbc1 hbc2
  refine (sOppositePoset_any _ rfl (own_rd Oar_1.out) rfl (ownSS_rd Oab_2.out) hn0 hn1 HR0.out).mono ?_
  rintro e w2 ⟨Av, cv, Bv, dv, rfl, own, own2, bel⟩
  have s3 : w1.heap.size ≤ w2.heap.size := (bel).size
  have BX3 := Lib.hid (BX2.out.go bel)
  have Oar_3 := Lib.hid (own_below Oar_1.out bel (Nat.le_refl _))
  have Oab_4 := Lib.hid (ownSS_below Oab_2.out bel (Nat.le_refl _))
  clear BX2 Oar_1 Oab_2
  have Ovr_5 := Lib.hid own
  have Pvr := Lib.hid (own_in own)
  have Ovb_6 := Lib.hid own2
  clear bel own own2
  have s4 : w2.heap.size ≤ (w2.alloc (.cells #[.int .i64 (opPR R0 x0 b0), .slice Av (opPX R0 x0 b0).length cv, .slice Bv (opPB R0 x0 b0).length dv] 71)).heap.size := ((below1 w2 (.cells #[.int .i64 (opPR R0 x0 b0), .slice Av (opPX R0 x0 b0).length cv, .slice Bv (opPB R0 x0 b0).length dv] 71))).size
  have BX4 := Lib.hid (BX3.out.go (below1 w2 (.cells #[.int .i64 (opPR R0 x0 b0), .slice Av (opPX R0 x0 b0).length cv, .slice Bv (opPB R0 x0 b0).length dv] 71)))
  have Oar_7 := Lib.hid (own_below Oar_3.out (below1 w2 (.cells #[.int .i64 (opPR R0 x0 b0), .slice Av (opPX R0 x0 b0).length cv, .slice Bv (opPB R0 x0 b0).length dv] 71)) (Nat.le_refl _))
  have Oab_8 := Lib.hid (ownSS_below Oab_4.out (below1 w2 (.cells #[.int .i64 (opPR R0 x0 b0), .slice Av (opPX R0 x0 b0).length cv, .slice Bv (opPB R0 x0 b0).length dv] 71)) (Nat.le_refl _))
  have Ovr_9 := Lib.hid (own_below Ovr_5.out (below1 w2 (.cells #[.int .i64 (opPR R0 x0 b0), .slice Av (opPX R0 x0 b0).length cv, .slice Bv (opPB R0 x0 b0).length dv] 71)) (Nat.le_refl _))
  have Ovb_10 := Lib.hid (ownSS_below Ovb_6.out (below1 w2 (.cells #[.int .i64 (opPR R0 x0 b0), .slice Av (opPX R0 x0 b0).length cv, .slice Bv (opPB R0 x0 b0).length dv] 71)) (Nat.le_refl _))
  clear BX3 Oar_3 Oab_4 Ovr_5 Ovb_6
  have XC11 := Lib.hid (Blk.new w2 #[.int .i64 (opPR R0 x0 b0), .slice Av (opPX R0 x0 b0).length cv, .slice Bv (opPB R0 x0 b0).length dv] 71)
  have hg_v : w2.heap.size < (w2.alloc (.cells #[.int .i64 (opPR R0 x0 b0), .slice Av (opPX R0 x0 b0).length cv, .slice Bv (opPB R0 x0 b0).length dv] 71)).heap.size := by simp
  clear Oar_7 Par
  clear Oab_8
  have hbc0 := BX4.out.cell0
  have hbc1 := BX4.out.cell1
  have hbc2 := BX4.out.cell2
  have hv0 := XC11.out.cell (i := 0) rfl
  have hv1 := XC11.out.cell (i := 1) rfl
  have hv2 := XC11.out.cell (i := 2) rfl
  go_wp2_with fail
  clear hbc0 hbc1 hbc2 hv0 hv1 hv2
  refine (toP_any _ rfl (HA0.out.keep BX4.out.below) rfl (HB0.out.keep BX4.out.below) hn0 hn1 HR0.out).mono ?_
  rintro e w3 ⟨Ay, cy, By, dy, my, rfl, mloy, mhiy, own, pin, own2, bel⟩
  have s5 : (w2.alloc (.cells #[.int .i64 (opPR R0 x0 b0), .slice Av (opPX R0 x0 b0).length cv, .slice Bv (opPB R0 x0 b0).length dv] 71)).heap.size ≤ w3.heap.size := (bel).size
  have BX5 := Lib.hid (BX4.out.go bel)
  have XC12 := Lib.hid (XC11.out.go bel)
  have Ovr_13 := Lib.hid (own_below Ovr_9.out bel (Nat.le_refl _))
  have Ovb_14 := Lib.hid (ownSS_below Ovb_10.out bel (Nat.le_refl _))
  clear BX4 XC11 Ovr_9 Ovb_10
  have Oyr_15 := Lib.hid own
  have Pyr := Lib.hid (pin)
  have Oyb_16 := Lib.hid own2
  clear bel own pin own2
  have s6 : w3.heap.size ≤ (w3.alloc (.cells #[.int .i64 R0, .slice Ay x0.length cy, .slice By b0.length dy] 71)).heap.size := ((below1 w3 (.cells #[.int .i64 R0, .slice Ay x0.length cy, .slice By b0.length dy] 71))).size
  have BX6 := Lib.hid (BX5.out.go (below1 w3 (.cells #[.int .i64 R0, .slice Ay x0.length cy, .slice By b0.length dy] 71)))
  have XC17 := Lib.hid (XC12.out.go (below1 w3 (.cells #[.int .i64 R0, .slice Ay x0.length cy, .slice By b0.length dy] 71)))
  have Ovr_18 := Lib.hid (own_below Ovr_13.out (below1 w3 (.cells #[.int .i64 R0, .slice Ay x0.length cy, .slice By b0.length dy] 71)) (Nat.le_refl _))
  have Ovb_19 := Lib.hid (ownSS_below Ovb_14.out (below1 w3 (.cells #[.int .i64 R0, .slice Ay x0.length cy, .slice By b0.length dy] 71)) (Nat.le_refl _))
  have Oyr_20 := Lib.hid (own_below Oyr_15.out (below1 w3 (.cells #[.int .i64 R0, .slice Ay x0.length cy, .slice By b0.length dy] 71)) (Nat.le_refl _))
  have Oyb_21 := Lib.hid (ownSS_below Oyb_16.out (below1 w3 (.cells #[.int .i64 R0, .slice Ay x0.length cy, .slice By b0.length dy] 71)) (Nat.le_refl _))
  clear BX5 XC12 Ovr_13 Ovb_14 Oyr_15 Oyb_16
  have XC22 := Lib.hid (Blk.new w3 #[.int .i64 R0, .slice Ay x0.length cy, .slice By b0.length dy] 71)
  have hg_x : w3.heap.size < (w3.alloc (.cells #[.int .i64 R0, .slice Ay x0.length cy, .slice By b0.length dy] 71)).heap.size := by simp
  have hbc0 := BX6.out.cell0
  have hbc1 := BX6.out.cell1
  have hbc2 := BX6.out.cell2
  have hv0 := XC17.out.cell (i := 0) rfl
  have hv1 := XC17.out.cell (i := 1) rfl
  have hv2 := XC17.out.cell (i := 2) rfl
  have hx0 := XC22.out.cell (i := 0) rfl
  have hx1 := XC22.out.cell (i := 1) rfl
  have hx2 := XC22.out.cell (i := 2) rfl
  go_wp2_with fail
  clear hbc0 hbc1 hbc2 hv0 hv1 hv2 hx0 hx1 hx2
  refine (iOppositePoset_any _ rfl (own_rd Oyr_20.out) rfl (ownSS_rd Oyb_21.out) hn0 hn1 HR0.out).mono ?_
  rintro e w4 ⟨Ag, cg, Bg, dg, mg, rfl, mlog, mhig, own, pin, own2, bel⟩
  have s7 : (w3.alloc (.cells #[.int .i64 R0, .slice Ay x0.length cy, .slice By b0.length dy] 71)).heap.size ≤ w4.heap.size := (bel).size
  have BX7 := Lib.hid (BX6.out.go bel)
  have XC23 := Lib.hid (XC17.out.go bel)
  have XC24 := Lib.hid (XC22.out.go bel)
  have Ovr_25 := Lib.hid (own_below Ovr_18.out bel (Nat.le_refl _))
  have Ovb_26 := Lib.hid (ownSS_below Ovb_19.out bel (Nat.le_refl _))
  have Oyr_27 := Lib.hid (own_below Oyr_20.out bel (Nat.le_refl _))
  have Oyb_28 := Lib.hid (ownSS_below Oyb_21.out bel (Nat.le_refl _))
  clear BX6 XC17 XC22 Ovr_18 Ovb_19 Oyr_20 Oyb_21
  have Ogr_29 := Lib.hid own
  have Pgr := Lib.hid (pin)
  have Ogb_30 := Lib.hid own2
  clear bel own pin own2
  have s8 : w4.heap.size ≤ (w4.alloc (.cells #[.int .i64 (opPR R0 x0 b0), .slice Ag (opPX R0 x0 b0).length cg, .slice Bg (opPB R0 x0 b0).length dg] 71)).heap.size := ((below1 w4 (.cells #[.int .i64 (opPR R0 x0 b0), .slice Ag (opPX R0 x0 b0).length cg, .slice Bg (opPB R0 x0 b0).length dg] 71))).size
  have BX8 := Lib.hid (BX7.out.go (below1 w4 (.cells #[.int .i64 (opPR R0 x0 b0), .slice Ag (opPX R0 x0 b0).length cg, .slice Bg (opPB R0 x0 b0).length dg] 71)))
  have XC31 := Lib.hid (XC23.out.go (below1 w4 (.cells #[.int .i64 (opPR R0 x0 b0), .slice Ag (opPX R0 x0 b0).length cg, .slice Bg (opPB R0 x0 b0).length dg] 71)))
  have XC32 := Lib.hid (XC24.out.go (below1 w4 (.cells #[.int .i64 (opPR R0 x0 b0), .slice Ag (opPX R0 x0 b0).length cg, .slice Bg (opPB R0 x0 b0).length dg] 71)))
  have Ovr_33 := Lib.hid (own_below Ovr_25.out (below1 w4 (.cells #[.int .i64 (opPR R0 x0 b0), .slice Ag (opPX R0 x0 b0).length cg, .slice Bg (opPB R0 x0 b0).length dg] 71)) (Nat.le_refl _))
  have Ovb_34 := Lib.hid (ownSS_below Ovb_26.out (below1 w4 (.cells #[.int .i64 (opPR R0 x0 b0), .slice Ag (opPX R0 x0 b0).length cg, .slice Bg (opPB R0 x0 b0).length dg] 71)) (Nat.le_refl _))
  have Oyr_35 := Lib.hid (own_below Oyr_27.out (below1 w4 (.cells #[.int .i64 (opPR R0 x0 b0), .slice Ag (opPX R0 x0 b0).length cg, .slice Bg (opPB R0 x0 b0).length dg] 71)) (Nat.le_refl _))
  have Oyb_36 := Lib.hid (ownSS_below Oyb_28.out (below1 w4 (.cells #[.int .i64 (opPR R0 x0 b0), .slice Ag (opPX R0 x0 b0).length cg, .slice Bg (opPB R0 x0 b0).length dg] 71)) (Nat.le_refl _))
  have Ogr_37 := Lib.hid (own_below Ogr_29.out (below1 w4 (.cells #[.int .i64 (opPR R0 x0 b0), .slice Ag (opPX R0 x0 b0).length cg, .slice Bg (opPB R0 x0 b0).length dg] 71)) (Nat.le_refl _))
  have Ogb_38 := Lib.hid (ownSS_below Ogb_30.out (below1 w4 (.cells #[.int .i64 (opPR R0 x0 b0), .slice Ag (opPX R0 x0 b0).length cg, .slice Bg (opPB R0 x0 b0).length dg] 71)) (Nat.le_refl _))
  clear BX7 XC23 XC24 Ovr_25 Ovb_26 Oyr_27 Oyb_28 Ogr_29 Ogb_30
  have XC39 := Lib.hid (Blk.new w4 #[.int .i64 (opPR R0 x0 b0), .slice Ag (opPX R0 x0 b0).length cg, .slice Bg (opPB R0 x0 b0).length dg] 71)
  have hg_g : w4.heap.size < (w4.alloc (.cells #[.int .i64 (opPR R0 x0 b0), .slice Ag (opPX R0 x0 b0).length cg, .slice Bg (opPB R0 x0 b0).length dg] 71)).heap.size := by simp
  have hlen : (opPX R0 x0 b0).length ≤ 1048576 := opPX_le _ _ _
  have hblen : (opPB R0 x0 b0).length ≤ 1048576 := (opPB_le _ _ _).1
  have HROW := Lib.hid (show ∀ xs ∈ opPB R0 x0 b0, (xs.length : Int) ≤ 1048576 from (opPB_le _ _ _).2)
  have htot := totalL_le HROW.out (opPB R0 x0 b0).length
  rw [List.take_length] at htot
  have hbc0 := BX8.out.cell0
  have hbc1 := BX8.out.cell1
  have hbc2 := BX8.out.cell2
  have hv0 := XC31.out.cell (i := 0) rfl
  have hv1 := XC31.out.cell (i := 1) rfl
  have hv2 := XC31.out.cell (i := 2) rfl
  have hx0 := XC32.out.cell (i := 0) rfl
  have hx1 := XC32.out.cell (i := 1) rfl
  have hx2 := XC32.out.cell (i := 2) rfl
  have hg0 := XC39.out.cell (i := 0) rfl
  have hg1 := XC39.out.cell (i := 1) rfl
  have hg2 := XC39.out.cell (i := 2) rfl
  go_wp2_with fail
  clear hbc0 hbc1 hbc2 hv0 hv1 hv2 hx0 hx1 hx2 hg0 hg1 hg2
  refine (eqP_same _ rfl rfl (own_rd Ogr_37.out) (own_rd Ovr_33.out) rfl rfl (ownSS_rd Ogb_38.out) (ownSS_rd Ovb_34.out) (by omega) (by omega)).mono ?_
  rintro e w5 ⟨rfl, bel⟩
  have s9 : (w4.alloc (.cells #[.int .i64 (opPR R0 x0 b0), .slice Ag (opPX R0 x0 b0).length cg, .slice Bg (opPB R0 x0 b0).length dg] 71)).heap.size ≤ w5.heap.size := (bel).size
  have BX9 := Lib.hid (BX8.out.go bel)
  have XC40 := Lib.hid (XC31.out.go bel)
  have XC41 := Lib.hid (XC32.out.go bel)
  have XC42 := Lib.hid (XC39.out.go bel)
  have Ovr_43 := Lib.hid (own_below Ovr_33.out bel (Nat.le_refl _))
  have Ovb_44 := Lib.hid (ownSS_below Ovb_34.out bel (Nat.le_refl _))
  have Oyr_45 := Lib.hid (own_below Oyr_35.out bel (Nat.le_refl _))
  have Oyb_46 := Lib.hid (ownSS_below Oyb_36.out bel (Nat.le_refl _))
  have Ogr_47 := Lib.hid (own_below Ogr_37.out bel (Nat.le_refl _))
  have Ogb_48 := Lib.hid (ownSS_below Ogb_38.out bel (Nat.le_refl _))
  clear BX8 XC31 XC32 XC39 Ovr_33 Ovb_34 Oyr_35 Oyb_36 Ogr_37 Ogb_38
  clear bel
  have HAK := Lib.hid (HA0.out.keep BX9.out.below) 
  have HBK := Lib.hid (HB0.out.keep BX9.out.below) 
  have HOA := Lib.hid (own_rd Oyr_45.out)
  have HOB := Lib.hid (ownSS_rd Oyb_46.out)
  have hbc0 := BX9.out.cell0
  have hbc1 := BX9.out.cell1
  have hbc2 := BX9.out.cell2
  have hv0 := XC40.out.cell (i := 0) rfl
  have hv1 := XC40.out.cell (i := 1) rfl
  have hv2 := XC40.out.cell (i := 2) rfl
  have hx0 := XC41.out.cell (i := 0) rfl
  have hx1 := XC41.out.cell (i := 1) rfl
  have hx2 := XC41.out.cell (i := 2) rfl
  have hg0 := XC42.out.cell (i := 0) rfl
  have hg1 := XC42.out.cell (i := 1) rfl
  have hg2 := XC42.out.cell (i := 2) rfl
  go_wp2_with fail
  go_region_held3 (fun w' => Below w5.heap.size w5 w' ∧ w'.cell? ⟨w.heap.size, 0, none⟩ = some (.int .i64 R0) ∧ w'.cell? ⟨w.heap.size, 1, none⟩ = some (.slice A0 x0.length c0) ∧ w'.cell? ⟨w.heap.size, 2, none⟩ = some (.slice B0 b0.length d0) ∧ w'.cell? ⟨w3.heap.size, 0, none⟩ = some (.int .i64 R0) ∧ w'.cell? ⟨w3.heap.size, 1, none⟩ = some (.slice Ay x0.length cy) ∧ w'.cell? ⟨w3.heap.size, 2, none⟩ = some (.slice By b0.length dy)) (first | (exact ⟨below_drewN (Below.refl _ _) 1, hbc0, hbc1, hbc2, hx0, hx1, hx2⟩) | (exact q))
    (first
      | (go_at_call 93
         refine (toP_any _ rfl (s7_rd HAK.out (by assumption)) rfl (s7_rs HBK.out (by assumption)) hn0 hn1 HR0.out).mono ?_
         rintro e wc ⟨A6, c6, B6, d6, m6, rfl, _, _, own, _, own2, bel⟩
         have q := s7_go (by assumption) bel)
      | (go_at_call 94
         refine (eqP_same _ rfl rfl (s7_rd HOA.out (by assumption)) (own_rd own) rfl rfl (s7_rs HOB.out (by assumption)) (ownSS_rd own2) (by omega) (by omega)).mono ?_
         rintro e w6 ⟨rfl, bel2⟩
         have q := s7_go (by assumption) bel2))
  clear hbc0 hbc1 hbc2 hv0 hv1 hv2 hx0 hx1 hx2 hg0 hg1 hg2
  have s10 : w5.heap.size ≤ w6.heap.size := (q.1).size
  have BX10 := Lib.hid (BX9.out.go q.1)
  have XC49 := Lib.hid (XC40.out.go q.1)
  have XC50 := Lib.hid (XC41.out.go q.1)
  have XC51 := Lib.hid (XC42.out.go q.1)
  have Ovr_52 := Lib.hid (own_below Ovr_43.out q.1 (Nat.le_refl _))
  have Ovb_53 := Lib.hid (ownSS_below Ovb_44.out q.1 (Nat.le_refl _))
  have Oyr_54 := Lib.hid (own_below Oyr_45.out q.1 (Nat.le_refl _))
  have Oyb_55 := Lib.hid (ownSS_below Oyb_46.out q.1 (Nat.le_refl _))
  have Ogr_56 := Lib.hid (own_below Ogr_47.out q.1 (Nat.le_refl _))
  have Ogb_57 := Lib.hid (ownSS_below Ogb_48.out q.1 (Nat.le_refl _))
  clear BX9 XC40 XC41 XC42 Ovr_43 Ovb_44 Oyr_45 Oyb_46 Ogr_47 Ogb_48
  clear HAK HBK HOA HOB q own own2
  have ht0 := totalL_le HR0.out b0.length
  rw [List.take_length] at ht0
  have hbc0 := BX10.out.cell0
  have hbc1 := BX10.out.cell1
  have hbc2 := BX10.out.cell2
  have hv0 := XC49.out.cell (i := 0) rfl
  have hv1 := XC49.out.cell (i := 1) rfl
  have hv2 := XC49.out.cell (i := 2) rfl
  have hx0 := XC50.out.cell (i := 0) rfl
  have hx1 := XC50.out.cell (i := 1) rfl
  have hx2 := XC50.out.cell (i := 2) rfl
  have hg0 := XC51.out.cell (i := 0) rfl
  have hg1 := XC51.out.cell (i := 1) rfl
  have hg2 := XC51.out.cell (i := 2) rfl
  go_wp2_with fail
  clear hbc0 hbc1 hbc2 hv0 hv1 hv2 hx0 hx1 hx2 hg0 hg1 hg2
  refine (markP_any 1 _ Oyr_54.out Pyr.out Oyb_55.out (by omega) (by omega) (by omega) hn0 hn1 HR0.out (by omega) (by omega)).mono ?_
  rintro e w7 ⟨rfl, own, own2, tu⟩
  have s11 : w6.heap.size ≤ w7.heap.size := (tu).size
  have BX11 := Lib.hid (BX10.out.tu tu (by omega))
  have XC58 := Lib.hid (XC49.out.turns tu (by omega))
  have XC59 := Lib.hid (XC50.out.turns tu (by omega))
  have XC60 := Lib.hid (XC51.out.turns tu (by omega))
  have Ovr_61 := Lib.hid (tu.own Ovr_52.out Pvr.out (by omega))
  have Ovb_62 := Lib.hid (ownSS_turns Ovb_53.out tu (by omega))
  have Ogr_63 := Lib.hid (tu.own Ogr_56.out Pgr.out (by omega))
  have Ogb_64 := Lib.hid (ownSS_turns Ogb_57.out tu (by omega))
  clear BX10 XC49 XC50 XC51 Ovr_52 Ovb_53 Ogr_56 Ogb_57
  clear Oyr_54 Oyb_55 Pyr own own2 tu
  have hbc0 := BX11.out.cell0
  have hbc1 := BX11.out.cell1
  have hbc2 := BX11.out.cell2
  have hv0 := XC58.out.cell (i := 0) rfl
  have hv1 := XC58.out.cell (i := 1) rfl
  have hv2 := XC58.out.cell (i := 2) rfl
  have hx0 := XC59.out.cell (i := 0) rfl
  have hx1 := XC59.out.cell (i := 1) rfl
  have hx2 := XC59.out.cell (i := 2) rfl
  have hg0 := XC60.out.cell (i := 0) rfl
  have hg1 := XC60.out.cell (i := 1) rfl
  have hg2 := XC60.out.cell (i := 2) rfl
  go_wp2_with fail
  clear hbc0 hbc1 hbc2 hv0 hv1 hv2 hx0 hx1 hx2 hg0 hg1 hg2
  refine (eqP_same _ rfl rfl (own_rd Ogr_63.out) (own_rd Ovr_61.out) rfl rfl (ownSS_rd Ogb_64.out) (ownSS_rd Ovb_62.out) (by omega) (by omega)).mono ?_
  rintro e w8 ⟨rfl, bel⟩
  have s12 : w7.heap.size ≤ w8.heap.size := (bel).size
  have BX12 := Lib.hid (BX11.out.go bel)
  have XC65 := Lib.hid (XC58.out.go bel)
  have XC66 := Lib.hid (XC59.out.go bel)
  have XC67 := Lib.hid (XC60.out.go bel)
  have Ovr_68 := Lib.hid (own_below Ovr_61.out bel (Nat.le_refl _))
  have Ovb_69 := Lib.hid (ownSS_below Ovb_62.out bel (Nat.le_refl _))
  have Ogr_70 := Lib.hid (own_below Ogr_63.out bel (Nat.le_refl _))
  have Ogb_71 := Lib.hid (ownSS_below Ogb_64.out bel (Nat.le_refl _))
  clear BX11 XC58 XC59 XC60 Ovr_61 Ovb_62 Ogr_63 Ogb_64
  clear bel
  have hbc0 := BX12.out.cell0
  have hbc1 := BX12.out.cell1
  have hbc2 := BX12.out.cell2
  have hv0 := XC65.out.cell (i := 0) rfl
  have hv1 := XC65.out.cell (i := 1) rfl
  have hv2 := XC65.out.cell (i := 2) rfl
  have hx0 := XC66.out.cell (i := 0) rfl
  have hx1 := XC66.out.cell (i := 1) rfl
  have hx2 := XC66.out.cell (i := 2) rfl
  have hg0 := XC67.out.cell (i := 0) rfl
  have hg1 := XC67.out.cell (i := 1) rfl
  have hg2 := XC67.out.cell (i := 2) rfl
  go_wp2_with fail
  clear hbc0 hbc1 hbc2 hv0 hv1 hv2 hx0 hx1 hx2 hg0 hg1 hg2
  refine (markP_any 1 _ Ogr_70.out Pgr.out Ogb_71.out (by omega) (by omega) (by omega) hlen hblen HROW.out (by omega) (by omega)).mono ?_
  rintro e w9 ⟨rfl, own, own2, tu⟩
  have s13 : w8.heap.size ≤ w9.heap.size := (tu).size
  have BX13 := Lib.hid (BX12.out.tu tu (by omega))
  have XC72 := Lib.hid (XC65.out.turns tu (by omega))
  have XC73 := Lib.hid (XC66.out.turns tu (by omega))
  have XC74 := Lib.hid (XC67.out.turns tu (by omega))
  have Ovr_75 := Lib.hid (tu.own Ovr_68.out Pvr.out (by omega))
  have Ovb_76 := Lib.hid (ownSS_turns Ovb_69.out tu (by omega))
  clear BX12 XC65 XC66 XC67 Ovr_68 Ovb_69
  have Ogr_77 := Lib.hid own
  have Ogb_78 := Lib.hid own2
  clear Ogr_70 Ogb_71 own own2 tu
  have hbc0 := BX13.out.cell0
  have hbc1 := BX13.out.cell1
  have hbc2 := BX13.out.cell2
  have hv0 := XC72.out.cell (i := 0) rfl
  have hv1 := XC72.out.cell (i := 1) rfl
  have hv2 := XC72.out.cell (i := 2) rfl
  have hx0 := XC73.out.cell (i := 0) rfl
  have hx1 := XC73.out.cell (i := 1) rfl
  have hx2 := XC73.out.cell (i := 2) rfl
  have hg0 := XC74.out.cell (i := 0) rfl
  have hg1 := XC74.out.cell (i := 1) rfl
  have hg2 := XC74.out.cell (i := 2) rfl
  go_wp2_with fail
  clear hbc0 hbc1 hbc2 hv0 hv1 hv2 hx0 hx1 hx2 hg0 hg1 hg2
  refine (heldP_any 1 _ (own_rd Ogr_77.out) rfl (ownSS_rd Ogb_78.out) hlen hblen HROW.out (by omega) (by omega)).mono ?_
  rintro e w10 ⟨rfl, bel⟩
  have s14 : w9.heap.size ≤ w10.heap.size := (bel).size
  have BX14 := Lib.hid (BX13.out.go bel)
  have XC79 := Lib.hid (XC72.out.go bel)
  have XC80 := Lib.hid (XC73.out.go bel)
  have XC81 := Lib.hid (XC74.out.go bel)
  have Ovr_82 := Lib.hid (own_below Ovr_75.out bel (Nat.le_refl _))
  have Ovb_83 := Lib.hid (ownSS_below Ovb_76.out bel (Nat.le_refl _))
  have Ogr_84 := Lib.hid (own_below Ogr_77.out bel (Nat.le_refl _))
  have Ogb_85 := Lib.hid (ownSS_below Ogb_78.out bel (Nat.le_refl _))
  clear BX13 XC72 XC73 XC74 Ovr_75 Ovb_76 Ogr_77 Ogb_78
  clear bel
  have hbc0 := BX14.out.cell0
  have hbc1 := BX14.out.cell1
  have hbc2 := BX14.out.cell2
  have hv0 := XC79.out.cell (i := 0) rfl
  have hv1 := XC79.out.cell (i := 1) rfl
  have hv2 := XC79.out.cell (i := 2) rfl
  have hx0 := XC80.out.cell (i := 0) rfl
  have hx1 := XC80.out.cell (i := 1) rfl
  have hx2 := XC80.out.cell (i := 2) rfl
  have hg0 := XC81.out.cell (i := 0) rfl
  have hg1 := XC81.out.cell (i := 1) rfl
  have hg2 := XC81.out.cell (i := 2) rfl
  go_wp2_with fail
  clear hbc0 hbc1 hbc2 hv0 hv1 hv2 hx0 hx1 hx2 hg0 hg1 hg2
  refine (toP_any _ rfl (HA0.out.keep BX14.out.below) rfl (HB0.out.keep BX14.out.below) hn0 hn1 HR0.out).mono ?_
  rintro e w11 ⟨Ab, cb, Bb, db, mb, rfl, mlob, mhib, own, pin, own2, bel⟩
  have s15 : w10.heap.size ≤ w11.heap.size := (bel).size
  have BX15 := Lib.hid (BX14.out.go bel)
  have XC86 := Lib.hid (XC79.out.go bel)
  have XC87 := Lib.hid (XC80.out.go bel)
  have XC88 := Lib.hid (XC81.out.go bel)
  have Ovr_89 := Lib.hid (own_below Ovr_82.out bel (Nat.le_refl _))
  have Ovb_90 := Lib.hid (ownSS_below Ovb_83.out bel (Nat.le_refl _))
  have Ogr_91 := Lib.hid (own_below Ogr_84.out bel (Nat.le_refl _))
  have Ogb_92 := Lib.hid (ownSS_below Ogb_85.out bel (Nat.le_refl _))
  clear BX14 XC79 XC80 XC81 Ovr_82 Ovb_83 Ogr_84 Ogb_85
  have Obr_93 := Lib.hid own
  have Pbr := Lib.hid (pin)
  have Obb_94 := Lib.hid own2
  clear bel own pin own2
  have hbc0 := BX15.out.cell0
  have hbc1 := BX15.out.cell1
  have hbc2 := BX15.out.cell2
  have hv0 := XC86.out.cell (i := 0) rfl
  have hv1 := XC86.out.cell (i := 1) rfl
  have hv2 := XC86.out.cell (i := 2) rfl
  have hx0 := XC87.out.cell (i := 0) rfl
  have hx1 := XC87.out.cell (i := 1) rfl
  have hx2 := XC87.out.cell (i := 2) rfl
  have hg0 := XC88.out.cell (i := 0) rfl
  have hg1 := XC88.out.cell (i := 1) rfl
  have hg2 := XC88.out.cell (i := 2) rfl
  go_wp2_with fail
  clear hbc0 hbc1 hbc2 hv0 hv1 hv2 hx0 hx1 hx2 hg0 hg1 hg2
  refine (iOppositePoset_any _ rfl (own_rd Obr_93.out) rfl (ownSS_rd Obb_94.out) hn0 hn1 HR0.out).mono ?_
  rintro e w12 ⟨Ah, ch, Bh, dh, mh, rfl, mloh, mhih, own, pin, own2, bel⟩
  have s16 : w11.heap.size ≤ w12.heap.size := (bel).size
  have BX16 := Lib.hid (BX15.out.go bel)
  have XC95 := Lib.hid (XC86.out.go bel)
  have XC96 := Lib.hid (XC87.out.go bel)
  have XC97 := Lib.hid (XC88.out.go bel)
  have Ovr_98 := Lib.hid (own_below Ovr_89.out bel (Nat.le_refl _))
  have Ovb_99 := Lib.hid (ownSS_below Ovb_90.out bel (Nat.le_refl _))
  have Ogr_100 := Lib.hid (own_below Ogr_91.out bel (Nat.le_refl _))
  have Ogb_101 := Lib.hid (ownSS_below Ogb_92.out bel (Nat.le_refl _))
  have Obr_102 := Lib.hid (own_below Obr_93.out bel (Nat.le_refl _))
  have Obb_103 := Lib.hid (ownSS_below Obb_94.out bel (Nat.le_refl _))
  clear BX15 XC86 XC87 XC88 Ovr_89 Ovb_90 Ogr_91 Ogb_92 Obr_93 Obb_94
  have Ohr_104 := Lib.hid own
  have Phr := Lib.hid (pin)
  have Ohb_105 := Lib.hid own2
  clear bel own pin own2
  have s17 : w12.heap.size ≤ (w12.alloc (.cells #[.int .i64 (opPR R0 x0 b0), .slice Ah (opPX R0 x0 b0).length ch, .slice Bh (opPB R0 x0 b0).length dh] 71)).heap.size := ((below1 w12 (.cells #[.int .i64 (opPR R0 x0 b0), .slice Ah (opPX R0 x0 b0).length ch, .slice Bh (opPB R0 x0 b0).length dh] 71))).size
  have BX17 := Lib.hid (BX16.out.go (below1 w12 (.cells #[.int .i64 (opPR R0 x0 b0), .slice Ah (opPX R0 x0 b0).length ch, .slice Bh (opPB R0 x0 b0).length dh] 71)))
  have XC106 := Lib.hid (XC95.out.go (below1 w12 (.cells #[.int .i64 (opPR R0 x0 b0), .slice Ah (opPX R0 x0 b0).length ch, .slice Bh (opPB R0 x0 b0).length dh] 71)))
  have XC107 := Lib.hid (XC96.out.go (below1 w12 (.cells #[.int .i64 (opPR R0 x0 b0), .slice Ah (opPX R0 x0 b0).length ch, .slice Bh (opPB R0 x0 b0).length dh] 71)))
  have XC108 := Lib.hid (XC97.out.go (below1 w12 (.cells #[.int .i64 (opPR R0 x0 b0), .slice Ah (opPX R0 x0 b0).length ch, .slice Bh (opPB R0 x0 b0).length dh] 71)))
  have Ovr_109 := Lib.hid (own_below Ovr_98.out (below1 w12 (.cells #[.int .i64 (opPR R0 x0 b0), .slice Ah (opPX R0 x0 b0).length ch, .slice Bh (opPB R0 x0 b0).length dh] 71)) (Nat.le_refl _))
  have Ovb_110 := Lib.hid (ownSS_below Ovb_99.out (below1 w12 (.cells #[.int .i64 (opPR R0 x0 b0), .slice Ah (opPX R0 x0 b0).length ch, .slice Bh (opPB R0 x0 b0).length dh] 71)) (Nat.le_refl _))
  have Ogr_111 := Lib.hid (own_below Ogr_100.out (below1 w12 (.cells #[.int .i64 (opPR R0 x0 b0), .slice Ah (opPX R0 x0 b0).length ch, .slice Bh (opPB R0 x0 b0).length dh] 71)) (Nat.le_refl _))
  have Ogb_112 := Lib.hid (ownSS_below Ogb_101.out (below1 w12 (.cells #[.int .i64 (opPR R0 x0 b0), .slice Ah (opPX R0 x0 b0).length ch, .slice Bh (opPB R0 x0 b0).length dh] 71)) (Nat.le_refl _))
  have Obr_113 := Lib.hid (own_below Obr_102.out (below1 w12 (.cells #[.int .i64 (opPR R0 x0 b0), .slice Ah (opPX R0 x0 b0).length ch, .slice Bh (opPB R0 x0 b0).length dh] 71)) (Nat.le_refl _))
  have Obb_114 := Lib.hid (ownSS_below Obb_103.out (below1 w12 (.cells #[.int .i64 (opPR R0 x0 b0), .slice Ah (opPX R0 x0 b0).length ch, .slice Bh (opPB R0 x0 b0).length dh] 71)) (Nat.le_refl _))
  have Ohr_115 := Lib.hid (own_below Ohr_104.out (below1 w12 (.cells #[.int .i64 (opPR R0 x0 b0), .slice Ah (opPX R0 x0 b0).length ch, .slice Bh (opPB R0 x0 b0).length dh] 71)) (Nat.le_refl _))
  have Ohb_116 := Lib.hid (ownSS_below Ohb_105.out (below1 w12 (.cells #[.int .i64 (opPR R0 x0 b0), .slice Ah (opPX R0 x0 b0).length ch, .slice Bh (opPB R0 x0 b0).length dh] 71)) (Nat.le_refl _))
  clear BX16 XC95 XC96 XC97 Ovr_98 Ovb_99 Ogr_100 Ogb_101 Obr_102 Obb_103 Ohr_104 Ohb_105
  have XC117 := Lib.hid (Blk.new w12 #[.int .i64 (opPR R0 x0 b0), .slice Ah (opPX R0 x0 b0).length ch, .slice Bh (opPB R0 x0 b0).length dh] 71)
  have hg_h : w12.heap.size < (w12.alloc (.cells #[.int .i64 (opPR R0 x0 b0), .slice Ah (opPX R0 x0 b0).length ch, .slice Bh (opPB R0 x0 b0).length dh] 71)).heap.size := by simp
  clear Obr_113 Pbr
  clear Obb_114
  have hbc0 := BX17.out.cell0
  have hbc1 := BX17.out.cell1
  have hbc2 := BX17.out.cell2
  have hv0 := XC106.out.cell (i := 0) rfl
  have hv1 := XC106.out.cell (i := 1) rfl
  have hv2 := XC106.out.cell (i := 2) rfl
  have hx0 := XC107.out.cell (i := 0) rfl
  have hx1 := XC107.out.cell (i := 1) rfl
  have hx2 := XC107.out.cell (i := 2) rfl
  have hg0 := XC108.out.cell (i := 0) rfl
  have hg1 := XC108.out.cell (i := 1) rfl
  have hg2 := XC108.out.cell (i := 2) rfl
  have hh0 := XC117.out.cell (i := 0) rfl
  have hh1 := XC117.out.cell (i := 1) rfl
  have hh2 := XC117.out.cell (i := 2) rfl
  go_wp2_with fail
  clear hbc0 hbc1 hbc2 hv0 hv1 hv2 hx0 hx1 hx2 hg0 hg1 hg2 hh0 hh1 hh2
  refine (eqP_same _ rfl rfl (own_rd Ohr_115.out) (own_rd Ovr_109.out) rfl rfl (ownSS_rd Ohb_116.out) (ownSS_rd Ovb_110.out) (by omega) (by omega)).mono ?_
  rintro e w13 ⟨rfl, bel⟩
  have s18 : (w12.alloc (.cells #[.int .i64 (opPR R0 x0 b0), .slice Ah (opPX R0 x0 b0).length ch, .slice Bh (opPB R0 x0 b0).length dh] 71)).heap.size ≤ w13.heap.size := (bel).size
  have BX18 := Lib.hid (BX17.out.go bel)
  have XC118 := Lib.hid (XC106.out.go bel)
  have XC119 := Lib.hid (XC107.out.go bel)
  have XC120 := Lib.hid (XC108.out.go bel)
  have XC121 := Lib.hid (XC117.out.go bel)
  have Ovr_122 := Lib.hid (own_below Ovr_109.out bel (Nat.le_refl _))
  have Ovb_123 := Lib.hid (ownSS_below Ovb_110.out bel (Nat.le_refl _))
  have Ogr_124 := Lib.hid (own_below Ogr_111.out bel (Nat.le_refl _))
  have Ogb_125 := Lib.hid (ownSS_below Ogb_112.out bel (Nat.le_refl _))
  have Ohr_126 := Lib.hid (own_below Ohr_115.out bel (Nat.le_refl _))
  have Ohb_127 := Lib.hid (ownSS_below Ohb_116.out bel (Nat.le_refl _))
  clear BX17 XC106 XC107 XC108 XC117 Ovr_109 Ovb_110 Ogr_111 Ogb_112 Ohr_115 Ohb_116
  clear bel
  have hbc0 := BX18.out.cell0
  have hbc1 := BX18.out.cell1
  have hbc2 := BX18.out.cell2
  have hv0 := XC118.out.cell (i := 0) rfl
  have hv1 := XC118.out.cell (i := 1) rfl
  have hv2 := XC118.out.cell (i := 2) rfl
  have hx0 := XC119.out.cell (i := 0) rfl
  have hx1 := XC119.out.cell (i := 1) rfl
  have hx2 := XC119.out.cell (i := 2) rfl
  have hg0 := XC120.out.cell (i := 0) rfl
  have hg1 := XC120.out.cell (i := 1) rfl
  have hg2 := XC120.out.cell (i := 2) rfl
  have hh0 := XC121.out.cell (i := 0) rfl
  have hh1 := XC121.out.cell (i := 1) rfl
  have hh2 := XC121.out.cell (i := 2) rfl
  go_wp2_with fail
  clear hbc0 hbc1 hbc2 hv0 hv1 hv2 hx0 hx1 hx2 hg0 hg1 hg2 hh0 hh1 hh2
  refine (heldP_any 1 _ (own_rd Ogr_124.out) rfl (ownSS_rd Ogb_125.out) hlen hblen HROW.out (by omega) (by omega)).mono ?_
  rintro e w14 ⟨rfl, bel⟩
  have s19 : w13.heap.size ≤ w14.heap.size := (bel).size
  have BX19 := Lib.hid (BX18.out.go bel)
  have XC128 := Lib.hid (XC118.out.go bel)
  have XC129 := Lib.hid (XC119.out.go bel)
  have XC130 := Lib.hid (XC120.out.go bel)
  have XC131 := Lib.hid (XC121.out.go bel)
  have Ovr_132 := Lib.hid (own_below Ovr_122.out bel (Nat.le_refl _))
  have Ovb_133 := Lib.hid (ownSS_below Ovb_123.out bel (Nat.le_refl _))
  have Ogr_134 := Lib.hid (own_below Ogr_124.out bel (Nat.le_refl _))
  have Ogb_135 := Lib.hid (ownSS_below Ogb_125.out bel (Nat.le_refl _))
  have Ohr_136 := Lib.hid (own_below Ohr_126.out bel (Nat.le_refl _))
  have Ohb_137 := Lib.hid (ownSS_below Ohb_127.out bel (Nat.le_refl _))
  clear BX18 XC118 XC119 XC120 XC121 Ovr_122 Ovb_123 Ogr_124 Ogb_125 Ohr_126 Ohb_127
  clear bel
  have hbc0 := BX19.out.cell0
  have hbc1 := BX19.out.cell1
  have hbc2 := BX19.out.cell2
  have hv0 := XC128.out.cell (i := 0) rfl
  have hv1 := XC128.out.cell (i := 1) rfl
  have hv2 := XC128.out.cell (i := 2) rfl
  have hx0 := XC129.out.cell (i := 0) rfl
  have hx1 := XC129.out.cell (i := 1) rfl
  have hx2 := XC129.out.cell (i := 2) rfl
  have hg0 := XC130.out.cell (i := 0) rfl
  have hg1 := XC130.out.cell (i := 1) rfl
  have hg2 := XC130.out.cell (i := 2) rfl
  have hh0 := XC131.out.cell (i := 0) rfl
  have hh1 := XC131.out.cell (i := 1) rfl
  have hh2 := XC131.out.cell (i := 2) rfl
  go_wp2
  go_ret
  exact ⟨rfl, BX19.out.below⟩

theorem walk_FnExactOppositePoset (r0 : Int) (a0 : Option Addr) (len0 cap0 : Nat) (z0 : List Int) (a1 : Option Addr) (len1 cap1 : Nat) (z1 : List (List Int)) (w : World) (w0 : IsRow .i64 w a0 len0 cap0 z0) (w1 : IsRows w a1 len1 z1) :
    Calls Try.prog 23 #[.agg #[.int .i64 r0, .slice a0 len0 cap0, .slice a1 len1 cap1]] w fun e w' => e = .returned (.bool true) ∧ Below w.heap.size w w' := by
  obtain ⟨x0, hx0, ha0, _, hm0⟩ := isRow_rd w0
  obtain ⟨hy0, hb0, hm1⟩ := w1
  subst hx0
  subst hy0
  exact law_OppositePoset w ha0 hb0 hm0 hm1
end Go.Proofs.Ytdhcklfpammhkaa
