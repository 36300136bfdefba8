import Derived.Test.YtdhcklfpammhkaaPe
import Derived.Test.YtdhcklfpammhkaaPl
namespace Go.Proofs.Ytdhcklfpammhkaa
open Go.RowKit

set_option maxHeartbeats 6400000 in
set_option maxRecDepth 8000 in
theorem law_ElementCounts {R0 : Int} {A0 B0 : Option Addr} {c0 d0 : Nat} {x0 : List Int} {b0 : List (List Int)} (w : World) (ha0 : Rd w A0 (ints x0)) (hb0 : RdSS w B0 b0) (hm0 : x0.length ≤ maxLen) (hm1 : b0.length ≤ maxLen) :
    Calls Try.prog 15 #[.agg #[.int .i64 R0, .slice A0 x0.length c0, .slice B0 b0.length d0]] w fun e w' => e = .returned (.bool true) ∧ Below w.heap.size w w' := by
  unfold maxLen at hm0 hm1
  have HA0 := Lib.hid ha0
  have HB0 := Lib.hid hb0
  clear ha0 hb0
  have BX0 := Lib.hid (Bp.start w #[.int .i64 R0, .slice A0 x0.length c0, .slice B0 b0.length d0] 83)
  have hs0 : w.heap.size + 1 ≤ (w.alloc (.cells #[.int .i64 R0, .slice A0 x0.length c0, .slice B0 b0.length d0] 83)).heap.size := by simp
  go_enter Try.func15, Try.ntmps15
  have hbc0 := BX0.out.cell0
  have hbc1 := BX0.out.cell1
  have hbc2 := BX0.out.cell2
  go_wp2_with fail
  clear hbc0 hbc1 hbc2
  refine (szP_any _ rfl (HB0.out.al _) hm0 hm1).mono ?_
  rintro e w0 ⟨r, rfl, g0, g1, g2, bel⟩
  have s1 : (w.alloc (.cells #[.int .i64 R0, .slice A0 x0.length c0, .slice B0 b0.length d0] 83)).heap.size ≤ w0.heap.size := (bel).size
  have BX1 := Lib.hid (BX0.out.go bel)
  clear BX0 
  clear bel
  by_cases hneg : r < 0
  · clear g2
    go_wp2
    go_ret
    exact ⟨rfl, BX1.out.below⟩
  have hz := g2 (by omega)
  have hn0 := hz.1
  have hn1 := hz.2.1
  have HR0 := Lib.hid hz.2.2
  clear g2 hz
  have hbc0 := BX1.out.cell0
  have hbc1 := BX1.out.cell1
  have hbc2 := BX1.out.cell2
  go_wp2_with fail
  clear hbc0 hbc1 hbc2
  refine (toP_any _ rfl (HA0.out.keep BX1.out.below) rfl (HB0.out.keep BX1.out.below) hn0 hn1 HR0.out).mono ?_
  rintro e w1 ⟨Aa, ca, Ba, da, ma, rfl, mloa, mhia, own, pin, own2, bel⟩
  have s2 : w0.heap.size ≤ w1.heap.size := (bel).size
  have BX2 := Lib.hid (BX1.out.go bel)
  clear BX1 
  have Oar_1 := Lib.hid own
  have Par := Lib.hid (pin)
  have Oab_2 := Lib.hid own2
  clear bel own pin own2
  have hbc0 := BX2.out.cell0
  have hbc1 := BX2.out.cell1
  have hbc2 := BX2.out.cell2
  go_wp2_with fail
  clear hbc0 hbc1 hbc2
  refine (sElementCounts_any _ rfl (own_rd Oar_1.out) rfl (ownSS_rd Oab_2.out) hn0 hn1 HR0.out).mono ?_
  rintro e w2 ⟨Av, cv, rfl, own, bel⟩
  have s3 : w1.heap.size ≤ w2.heap.size := (bel).size
  have BX3 := Lib.hid (BX2.out.go bel)
  have Oar_3 := Lib.hid (own_below Oar_1.out bel (Nat.le_refl _))
  have Oab_4 := Lib.hid (ownSS_below Oab_2.out bel (Nat.le_refl _))
  clear BX2 Oar_1 Oab_2
  have Ov_5 := Lib.hid own
  have Pv := Lib.hid (own_in own)
  clear bel own
  clear Oar_3 Par
  clear Oab_4
  have hbc0 := BX3.out.cell0
  have hbc1 := BX3.out.cell1
  have hbc2 := BX3.out.cell2
  go_wp2_with fail
  clear hbc0 hbc1 hbc2
  refine (toP_any _ rfl (HA0.out.keep BX3.out.below) rfl (HB0.out.keep BX3.out.below) hn0 hn1 HR0.out).mono ?_
  rintro e w3 ⟨Ay, cy, By, dy, my, rfl, mloy, mhiy, own, pin, own2, bel⟩
  have s4 : w2.heap.size ≤ w3.heap.size := (bel).size
  have BX4 := Lib.hid (BX3.out.go bel)
  have Ov_6 := Lib.hid (own_below Ov_5.out bel (Nat.le_refl _))
  clear BX3 Ov_5
  have Oyr_7 := Lib.hid own
  have Pyr := Lib.hid (pin)
  have Oyb_8 := Lib.hid own2
  clear bel own pin own2
  have s5 : w3.heap.size ≤ (w3.alloc (.cells #[.int .i64 R0, .slice Ay x0.length cy, .slice By b0.length dy] 71)).heap.size := ((below1 w3 (.cells #[.int .i64 R0, .slice Ay x0.length cy, .slice By b0.length dy] 71))).size
  have BX5 := Lib.hid (BX4.out.go (below1 w3 (.cells #[.int .i64 R0, .slice Ay x0.length cy, .slice By b0.length dy] 71)))
  have Ov_9 := Lib.hid (own_below Ov_6.out (below1 w3 (.cells #[.int .i64 R0, .slice Ay x0.length cy, .slice By b0.length dy] 71)) (Nat.le_refl _))
  have Oyr_10 := Lib.hid (own_below Oyr_7.out (below1 w3 (.cells #[.int .i64 R0, .slice Ay x0.length cy, .slice By b0.length dy] 71)) (Nat.le_refl _))
  have Oyb_11 := Lib.hid (ownSS_below Oyb_8.out (below1 w3 (.cells #[.int .i64 R0, .slice Ay x0.length cy, .slice By b0.length dy] 71)) (Nat.le_refl _))
  clear BX4 Ov_6 Oyr_7 Oyb_8
  have XC12 := Lib.hid (Blk.new w3 #[.int .i64 R0, .slice Ay x0.length cy, .slice By b0.length dy] 71)
  have hg_x : w3.heap.size < (w3.alloc (.cells #[.int .i64 R0, .slice Ay x0.length cy, .slice By b0.length dy] 71)).heap.size := by simp
  have hbc0 := BX5.out.cell0
  have hbc1 := BX5.out.cell1
  have hbc2 := BX5.out.cell2
  have hx0 := XC12.out.cell (i := 0) rfl
  have hx1 := XC12.out.cell (i := 1) rfl
  have hx2 := XC12.out.cell (i := 2) rfl
  go_wp2_with fail
  clear hbc0 hbc1 hbc2 hx0 hx1 hx2
  refine (iElementCounts_any _ rfl (own_rd Oyr_10.out) rfl (ownSS_rd Oyb_11.out) hn0 hn1 HR0.out).mono ?_
  rintro e w4 ⟨Ag, cg, rfl, own, bel⟩
  have s6 : (w3.alloc (.cells #[.int .i64 R0, .slice Ay x0.length cy, .slice By b0.length dy] 71)).heap.size ≤ w4.heap.size := (bel).size
  have BX6 := Lib.hid (BX5.out.go bel)
  have XC13 := Lib.hid (XC12.out.go bel)
  have Ov_14 := Lib.hid (own_below Ov_9.out bel (Nat.le_refl _))
  have Oyr_15 := Lib.hid (own_below Oyr_10.out bel (Nat.le_refl _))
  have Oyb_16 := Lib.hid (ownSS_below Oyb_11.out bel (Nat.le_refl _))
  clear BX5 XC12 Ov_9 Oyr_10 Oyb_11
  have Og_17 := Lib.hid own
  have Pg := Lib.hid (own_in own)
  clear bel own
  have hlen : (ecR R0 x0 b0).length ≤ 1048576 := ecR_le _ _ _
  have hbc0 := BX6.out.cell0
  have hbc1 := BX6.out.cell1
  have hbc2 := BX6.out.cell2
  have hx0 := XC13.out.cell (i := 0) rfl
  have hx1 := XC13.out.cell (i := 1) rfl
  have hx2 := XC13.out.cell (i := 2) rfl
  go_wp2_with fail
  clear hbc0 hbc1 hbc2 hx0 hx1 hx2
  refine (eq_same _ rfl rfl (own_rd Og_17.out) (own_rd Ov_14.out) (by omega)).mono ?_
  rintro e w5 ⟨rfl, bel⟩
  have s7 : w4.heap.size ≤ w5.heap.size := (bel).size
  have BX7 := Lib.hid (BX6.out.go bel)
  have XC18 := Lib.hid (XC13.out.go bel)
  have Ov_19 := Lib.hid (own_below Ov_14.out bel (Nat.le_refl _))
  have Oyr_20 := Lib.hid (own_below Oyr_15.out bel (Nat.le_refl _))
  have Oyb_21 := Lib.hid (ownSS_below Oyb_16.out bel (Nat.le_refl _))
  have Og_22 := Lib.hid (own_below Og_17.out bel (Nat.le_refl _))
  clear BX6 XC13 Ov_14 Oyr_15 Oyb_16 Og_17
  clear bel
  have HAK := Lib.hid (HA0.out.keep BX7.out.below) 
  have HBK := Lib.hid (HB0.out.keep BX7.out.below) 
  have HOA := Lib.hid (own_rd Oyr_20.out)
  have HOB := Lib.hid (ownSS_rd Oyb_21.out)
  have hbc0 := BX7.out.cell0
  have hbc1 := BX7.out.cell1
  have hbc2 := BX7.out.cell2
  have hx0 := XC18.out.cell (i := 0) rfl
  have hx1 := XC18.out.cell (i := 1) rfl
  have hx2 := XC18.out.cell (i := 2) rfl
  go_wp2_with fail
  go_region_held3 (fun w' => Below w5.heap.size w5 w' ∧ w'.cell? ⟨w.heap.size, 0, none⟩ = some (.int .i64 R0) ∧ w'.cell? ⟨w.heap.size, 1, none⟩ = some (.slice A0 x0.length c0) ∧ w'.cell? ⟨w.heap.size, 2, none⟩ = some (.slice B0 b0.length d0) ∧ w'.cell? ⟨w3.heap.size, 0, none⟩ = some (.int .i64 R0) ∧ w'.cell? ⟨w3.heap.size, 1, none⟩ = some (.slice Ay x0.length cy) ∧ w'.cell? ⟨w3.heap.size, 2, none⟩ = some (.slice By b0.length dy)) (first | (exact ⟨below_drewN (Below.refl _ _) 1, hbc0, hbc1, hbc2, hx0, hx1, hx2⟩) | (exact q))
    (first
      | (go_at_call 93
         refine (toP_any _ rfl (s7_rd HAK.out (by assumption)) rfl (s7_rs HBK.out (by assumption)) hn0 hn1 HR0.out).mono ?_
         rintro e wc ⟨A6, c6, B6, d6, m6, rfl, _, _, own, _, own2, bel⟩
         have q := s7_go (by assumption) bel)
      | (go_at_call 94
         refine (eqP_same _ rfl rfl (s7_rd HOA.out (by assumption)) (own_rd own) rfl rfl (s7_rs HOB.out (by assumption)) (ownSS_rd own2) (by omega) (by omega)).mono ?_
         rintro e w6 ⟨rfl, bel2⟩
         have q := s7_go (by assumption) bel2))
  clear hbc0 hbc1 hbc2 hx0 hx1 hx2
  have s8 : w5.heap.size ≤ w6.heap.size := (q.1).size
  have BX8 := Lib.hid (BX7.out.go q.1)
  have XC23 := Lib.hid (XC18.out.go q.1)
  have Ov_24 := Lib.hid (own_below Ov_19.out q.1 (Nat.le_refl _))
  have Oyr_25 := Lib.hid (own_below Oyr_20.out q.1 (Nat.le_refl _))
  have Oyb_26 := Lib.hid (ownSS_below Oyb_21.out q.1 (Nat.le_refl _))
  have Og_27 := Lib.hid (own_below Og_22.out q.1 (Nat.le_refl _))
  clear BX7 XC18 Ov_19 Oyr_20 Oyb_21 Og_22
  clear HAK HBK HOA HOB q own own2
  have ht0 := totalL_le HR0.out b0.length
  rw [List.take_length] at ht0
  have hbc0 := BX8.out.cell0
  have hbc1 := BX8.out.cell1
  have hbc2 := BX8.out.cell2
  have hx0 := XC23.out.cell (i := 0) rfl
  have hx1 := XC23.out.cell (i := 1) rfl
  have hx2 := XC23.out.cell (i := 2) rfl
  go_wp2_with fail
  clear hbc0 hbc1 hbc2 hx0 hx1 hx2
  refine (markP_any 1 _ Oyr_25.out Pyr.out Oyb_26.out (by omega) (by omega) (by omega) hn0 hn1 HR0.out (by omega) (by omega)).mono ?_
  rintro e w7 ⟨rfl, own, own2, tu⟩
  have s9 : w6.heap.size ≤ w7.heap.size := (tu).size
  have BX9 := Lib.hid (BX8.out.tu tu (by omega))
  have XC28 := Lib.hid (XC23.out.turns tu (by omega))
  have Ov_29 := Lib.hid (tu.own Ov_24.out Pv.out (by omega))
  have Og_30 := Lib.hid (tu.own Og_27.out Pg.out (by omega))
  clear BX8 XC23 Ov_24 Og_27
  clear Oyr_25 Oyb_26 Pyr own own2 tu
  have hbc0 := BX9.out.cell0
  have hbc1 := BX9.out.cell1
  have hbc2 := BX9.out.cell2
  have hx0 := XC28.out.cell (i := 0) rfl
  have hx1 := XC28.out.cell (i := 1) rfl
  have hx2 := XC28.out.cell (i := 2) rfl
  go_wp2_with fail
  clear hbc0 hbc1 hbc2 hx0 hx1 hx2
  refine (eq_same _ rfl rfl (own_rd Og_30.out) (own_rd Ov_29.out) (by omega)).mono ?_
  rintro e w8 ⟨rfl, bel⟩
  have s10 : w7.heap.size ≤ w8.heap.size := (bel).size
  have BX10 := Lib.hid (BX9.out.go bel)
  have XC31 := Lib.hid (XC28.out.go bel)
  have Ov_32 := Lib.hid (own_below Ov_29.out bel (Nat.le_refl _))
  have Og_33 := Lib.hid (own_below Og_30.out bel (Nat.le_refl _))
  clear BX9 XC28 Ov_29 Og_30
  clear bel
  have hbc0 := BX10.out.cell0
  have hbc1 := BX10.out.cell1
  have hbc2 := BX10.out.cell2
  have hx0 := XC31.out.cell (i := 0) rfl
  have hx1 := XC31.out.cell (i := 1) rfl
  have hx2 := XC31.out.cell (i := 2) rfl
  go_wp2_with fail
  clear hbc0 hbc1 hbc2 hx0 hx1 hx2
  refine (mark_any 1 _ Og_33.out hlen (by omega) (by omega)).mono ?_
  rintro e w9 ⟨rfl, own, gr⟩
  have tu := Turns.of_grown gr Pg.out
  have s11 : w8.heap.size ≤ w9.heap.size := (tu).size
  have BX11 := Lib.hid (BX10.out.tu tu (by omega))
  have XC34 := Lib.hid (XC31.out.turns tu (by omega))
  have Ov_35 := Lib.hid (tu.own Ov_32.out Pv.out (by omega))
  clear BX10 XC31 Ov_32
  have Og_36 := Lib.hid own
  clear Og_33 own tu gr
  have hbc0 := BX11.out.cell0
  have hbc1 := BX11.out.cell1
  have hbc2 := BX11.out.cell2
  have hx0 := XC34.out.cell (i := 0) rfl
  have hx1 := XC34.out.cell (i := 1) rfl
  have hx2 := XC34.out.cell (i := 2) rfl
  go_wp2_with fail
  clear hbc0 hbc1 hbc2 hx0 hx1 hx2
  refine (held_any 1 _ (own_rd Og_36.out) hlen (by omega) (by omega)).mono ?_
  rintro e wz ⟨rfl, rfl⟩
  have hbc0 := BX11.out.cell0
  have hbc1 := BX11.out.cell1
  have hbc2 := BX11.out.cell2
  have hx0 := XC34.out.cell (i := 0) rfl
  have hx1 := XC34.out.cell (i := 1) rfl
  have hx2 := XC34.out.cell (i := 2) rfl
  go_wp2_with fail
  clear hbc0 hbc1 hbc2 hx0 hx1 hx2
  refine (toP_any _ rfl (HA0.out.keep BX11.out.below) rfl (HB0.out.keep BX11.out.below) hn0 hn1 HR0.out).mono ?_
  rintro e w10 ⟨Ab, cb, Bb, db, mb, rfl, mlob, mhib, own, pin, own2, bel⟩
  have s12 : w9.heap.size ≤ w10.heap.size := (bel).size
  have BX12 := Lib.hid (BX11.out.go bel)
  have XC37 := Lib.hid (XC34.out.go bel)
  have Ov_38 := Lib.hid (own_below Ov_35.out bel (Nat.le_refl _))
  have Og_39 := Lib.hid (own_below Og_36.out bel (Nat.le_refl _))
  clear BX11 XC34 Ov_35 Og_36
  have Obr_40 := Lib.hid own
  have Pbr := Lib.hid (pin)
  have Obb_41 := Lib.hid own2
  clear bel own pin own2
  have hbc0 := BX12.out.cell0
  have hbc1 := BX12.out.cell1
  have hbc2 := BX12.out.cell2
  have hx0 := XC37.out.cell (i := 0) rfl
  have hx1 := XC37.out.cell (i := 1) rfl
  have hx2 := XC37.out.cell (i := 2) rfl
  go_wp2_with fail
  clear hbc0 hbc1 hbc2 hx0 hx1 hx2
  refine (iElementCounts_any _ rfl (own_rd Obr_40.out) rfl (ownSS_rd Obb_41.out) hn0 hn1 HR0.out).mono ?_
  rintro e w11 ⟨Ah, ch, rfl, own, bel⟩
  have s13 : w10.heap.size ≤ w11.heap.size := (bel).size
  have BX13 := Lib.hid (BX12.out.go bel)
  have XC42 := Lib.hid (XC37.out.go bel)
  have Ov_43 := Lib.hid (own_below Ov_38.out bel (Nat.le_refl _))
  have Og_44 := Lib.hid (own_below Og_39.out bel (Nat.le_refl _))
  have Obr_45 := Lib.hid (own_below Obr_40.out bel (Nat.le_refl _))
  have Obb_46 := Lib.hid (ownSS_below Obb_41.out bel (Nat.le_refl _))
  clear BX12 XC37 Ov_38 Og_39 Obr_40 Obb_41
  have Oh_47 := Lib.hid own
  have Ph := Lib.hid (own_in own)
  clear bel own
  clear Obr_45 Pbr
  clear Obb_46
  have hbc0 := BX13.out.cell0
  have hbc1 := BX13.out.cell1
  have hbc2 := BX13.out.cell2
  have hx0 := XC42.out.cell (i := 0) rfl
  have hx1 := XC42.out.cell (i := 1) rfl
  have hx2 := XC42.out.cell (i := 2) rfl
  go_wp2_with fail
  clear hbc0 hbc1 hbc2 hx0 hx1 hx2
  refine (eq_same _ rfl rfl (own_rd Oh_47.out) (own_rd Ov_43.out) (by omega)).mono ?_
  rintro e w12 ⟨rfl, bel⟩
  have s14 : w11.heap.size ≤ w12.heap.size := (bel).size
  have BX14 := Lib.hid (BX13.out.go bel)
  have XC48 := Lib.hid (XC42.out.go bel)
  have Ov_49 := Lib.hid (own_below Ov_43.out bel (Nat.le_refl _))
  have Og_50 := Lib.hid (own_below Og_44.out bel (Nat.le_refl _))
  have Oh_51 := Lib.hid (own_below Oh_47.out bel (Nat.le_refl _))
  clear BX13 XC42 Ov_43 Og_44 Oh_47
  clear bel
  have hbc0 := BX14.out.cell0
  have hbc1 := BX14.out.cell1
  have hbc2 := BX14.out.cell2
  have hx0 := XC48.out.cell (i := 0) rfl
  have hx1 := XC48.out.cell (i := 1) rfl
  have hx2 := XC48.out.cell (i := 2) rfl
  go_wp2_with fail
  clear hbc0 hbc1 hbc2 hx0 hx1 hx2
  refine (held_any 1 _ (own_rd Og_50.out) hlen (by omega) (by omega)).mono ?_
  rintro e wz ⟨rfl, rfl⟩
  have hbc0 := BX14.out.cell0
  have hbc1 := BX14.out.cell1
  have hbc2 := BX14.out.cell2
  have hx0 := XC48.out.cell (i := 0) rfl
  have hx1 := XC48.out.cell (i := 1) rfl
  have hx2 := XC48.out.cell (i := 2) rfl
  go_wp2
  go_ret
  exact ⟨rfl, BX14.out.below⟩

theorem walk_FnExactElementCounts (r0 : Int) (a0 : Option Addr) (len0 cap0 : Nat) (z0 : List Int) (a1 : Option Addr) (len1 cap1 : Nat) (z1 : List (List Int)) (w : World) (w0 : IsRow .i64 w a0 len0 cap0 z0) (w1 : IsRows w a1 len1 z1) :
    Calls Try.prog 15 #[.agg #[.int .i64 r0, .slice a0 len0 cap0, .slice a1 len1 cap1]] w fun e w' => e = .returned (.bool true) ∧ Below w.heap.size w w' := by
  obtain ⟨x0, hx0, ha0, _, hm0⟩ := isRow_rd w0
  obtain ⟨hy0, hb0, hm1⟩ := w1
  subst hx0
  subst hy0
  exact law_ElementCounts w ha0 hb0 hm0 hm1
end Go.Proofs.Ytdhcklfpammhkaa
