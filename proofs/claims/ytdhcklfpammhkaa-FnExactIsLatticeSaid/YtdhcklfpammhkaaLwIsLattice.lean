import Derived.Test.YtdhcklfpammhkaaLx
import Derived.Test.YtdhcklfpammhkaaPl
namespace Go.Proofs.Ytdhcklfpammhkaa
open Go.RowKit

set_option maxHeartbeats 6400000 in
set_option maxRecDepth 8000 in
theorem law_IsLattice {R0 : Int} {A0 B0 : Option Addr} {c0 d0 : Nat} {x0 : List Int} {b0 : List (List Int)} (w : World) (ha0 : Rd w A0 (ints x0)) (hb0 : RdSS w B0 b0) (hm0 : x0.length ≤ maxLen) (hm1 : b0.length ≤ maxLen) :
    Calls Try.prog 24 #[.agg #[.int .i64 R0, .slice A0 x0.length c0, .slice B0 b0.length d0]] w fun e w' => e = .returned (.bool true) ∧ Below w.heap.size w w' := by
  unfold maxLen at hm0 hm1
  have HA0 := Lib.hid ha0
  have HB0 := Lib.hid hb0
  clear ha0 hb0
  have BX0 := Lib.hid (Bp.start w #[.int .i64 R0, .slice A0 x0.length c0, .slice B0 b0.length d0] 83)
  have hs0 : w.heap.size + 1 ≤ (w.alloc (.cells #[.int .i64 R0, .slice A0 x0.length c0, .slice B0 b0.length d0] 83)).heap.size := by simp
  go_enter Try.func24, Try.ntmps24
  have hbc0 := BX0.out.cell0
  have hbc1 := BX0.out.cell1
  have hbc2 := BX0.out.cell2
  go_wp2_with fail
  clear hbc0 hbc1 hbc2
  refine (szP_any _ rfl (HB0.out.al _) hm0 hm1).mono ?_
  rintro e w0 ⟨r, rfl, g0, g1, g2, bel⟩
  have s1 : (w.alloc (.cells #[.int .i64 R0, .slice A0 x0.length c0, .slice B0 b0.length d0] 83)).heap.size ≤ w0.heap.size := (bel).size
  have BX1 := Lib.hid (BX0.out.go bel)
  clear BX0 
  clear bel
  by_cases hneg : r < 0
  · clear g2
    go_wp2
    go_ret
    exact ⟨rfl, BX1.out.below⟩
  have hz := g2 (by omega)
  have hn0 := hz.1
  have hn1 := hz.2.1
  have HR0 := Lib.hid hz.2.2
  clear g2 hz
  have hbc0 := BX1.out.cell0
  have hbc1 := BX1.out.cell1
  have hbc2 := BX1.out.cell2
  go_wp2_with fail
  clear hbc0 hbc1 hbc2
  refine (toP_any _ rfl (HA0.out.keep BX1.out.below) rfl (HB0.out.keep BX1.out.below) hn0 hn1 HR0.out).mono ?_
  rintro e w1 ⟨Aa, ca, Ba, da, ma, rfl, mloa, mhia, own, pin, own2, bel⟩
  have s2 : w0.heap.size ≤ w1.heap.size := (bel).size
  have BX2 := Lib.hid (BX1.out.go bel)
  clear BX1 
  have Oar_1 := Lib.hid own
  have Par := Lib.hid (pin)
  have Oab_2 := Lib.hid own2
  clear bel own pin own2
  have hbc0 := BX2.out.cell0
  have hbc1 := BX2.out.cell1
  have hbc2 := BX2.out.cell2
  go_wp2_with fail
  clear hbc0 hbc1 hbc2
  refine (sIsLattice_any _ rfl (own_rd Oar_1.out) rfl (ownSS_rd Oab_2.out) hn0 hn1 HR0.out).mono ?_
  rintro e w2 ⟨rfl, bel⟩
  have s3 : w1.heap.size ≤ w2.heap.size := (bel).size
  have BX3 := Lib.hid (BX2.out.go bel)
  have Oar_3 := Lib.hid (own_below Oar_1.out bel (Nat.le_refl _))
  have Oab_4 := Lib.hid (ownSS_below Oab_2.out bel (Nat.le_refl _))
  clear BX2 Oar_1 Oab_2
  clear bel
  clear Oar_3 Par
  clear Oab_4
  have hbc0 := BX3.out.cell0
  have hbc1 := BX3.out.cell1
  have hbc2 := BX3.out.cell2
  go_wp2_with fail
  clear hbc0 hbc1 hbc2
  refine (toP_any _ rfl (HA0.out.keep BX3.out.below) rfl (HB0.out.keep BX3.out.below) hn0 hn1 HR0.out).mono ?_
  rintro e w3 ⟨Ay, cy, By, dy, my, rfl, mloy, mhiy, own, pin, own2, bel⟩
  have s4 : w2.heap.size ≤ w3.heap.size := (bel).size
  have BX4 := Lib.hid (BX3.out.go bel)
  clear BX3 
  have Oyr_5 := Lib.hid own
  have Pyr := Lib.hid (pin)
  have Oyb_6 := Lib.hid own2
  clear bel own pin own2
  have s5 : w3.heap.size ≤ (w3.alloc (.cells #[.int .i64 R0, .slice Ay x0.length cy, .slice By b0.length dy] 71)).heap.size := ((below1 w3 (.cells #[.int .i64 R0, .slice Ay x0.length cy, .slice By b0.length dy] 71))).size
  have BX5 := Lib.hid (BX4.out.go (below1 w3 (.cells #[.int .i64 R0, .slice Ay x0.length cy, .slice By b0.length dy] 71)))
  have Oyr_7 := Lib.hid (own_below Oyr_5.out (below1 w3 (.cells #[.int .i64 R0, .slice Ay x0.length cy, .slice By b0.length dy] 71)) (Nat.le_refl _))
  have Oyb_8 := Lib.hid (ownSS_below Oyb_6.out (below1 w3 (.cells #[.int .i64 R0, .slice Ay x0.length cy, .slice By b0.length dy] 71)) (Nat.le_refl _))
  clear BX4 Oyr_5 Oyb_6
  have XC9 := Lib.hid (Blk.new w3 #[.int .i64 R0, .slice Ay x0.length cy, .slice By b0.length dy] 71)
  have hg_x : w3.heap.size < (w3.alloc (.cells #[.int .i64 R0, .slice Ay x0.length cy, .slice By b0.length dy] 71)).heap.size := by simp
  have hbc0 := BX5.out.cell0
  have hbc1 := BX5.out.cell1
  have hbc2 := BX5.out.cell2
  have hx0 := XC9.out.cell (i := 0) rfl
  have hx1 := XC9.out.cell (i := 1) rfl
  have hx2 := XC9.out.cell (i := 2) rfl
  go_wp2_with fail
  clear hbc0 hbc1 hbc2 hx0 hx1 hx2
  refine (iIsLattice_any _ rfl (own_rd Oyr_7.out) rfl (ownSS_rd Oyb_8.out) hn0 hn1 HR0.out).mono ?_
  rintro e w4 ⟨rfl, bel⟩
  have s6 : (w3.alloc (.cells #[.int .i64 R0, .slice Ay x0.length cy, .slice By b0.length dy] 71)).heap.size ≤ w4.heap.size := (bel).size
  have BX6 := Lib.hid (BX5.out.go bel)
  have XC10 := Lib.hid (XC9.out.go bel)
  have Oyr_11 := Lib.hid (own_below Oyr_7.out bel (Nat.le_refl _))
  have Oyb_12 := Lib.hid (ownSS_below Oyb_8.out bel (Nat.le_refl _))
  clear BX5 XC9 Oyr_7 Oyb_8
  clear bel
  have hne : ∀ x : Bool, (x != x) = false := fun x => by simp
  have HAK := Lib.hid (HA0.out.keep BX6.out.below) 
  have HBK := Lib.hid (HB0.out.keep BX6.out.below) 
  have HOA := Lib.hid (own_rd Oyr_11.out)
  have HOB := Lib.hid (ownSS_rd Oyb_12.out)
  have hbc0 := BX6.out.cell0
  have hbc1 := BX6.out.cell1
  have hbc2 := BX6.out.cell2
  have hx0 := XC10.out.cell (i := 0) rfl
  have hx1 := XC10.out.cell (i := 1) rfl
  have hx2 := XC10.out.cell (i := 2) rfl
  go_wp2_with fail
  clear hne
  go_region_held3 (fun w' => Below w4.heap.size w4 w' ∧ w'.cell? ⟨w.heap.size, 0, none⟩ = some (.int .i64 R0) ∧ w'.cell? ⟨w.heap.size, 1, none⟩ = some (.slice A0 x0.length c0) ∧ w'.cell? ⟨w.heap.size, 2, none⟩ = some (.slice B0 b0.length d0) ∧ w'.cell? ⟨w3.heap.size, 0, none⟩ = some (.int .i64 R0) ∧ w'.cell? ⟨w3.heap.size, 1, none⟩ = some (.slice Ay x0.length cy) ∧ w'.cell? ⟨w3.heap.size, 2, none⟩ = some (.slice By b0.length dy)) (first | (exact ⟨below_drewN (Below.refl _ _) 1, hbc0, hbc1, hbc2, hx0, hx1, hx2⟩) | (exact q))
    (first
      | (go_at_call 93
         refine (toP_any _ rfl (s7_rd HAK.out (by assumption)) rfl (s7_rs HBK.out (by assumption)) hn0 hn1 HR0.out).mono ?_
         rintro e wc ⟨A6, c6, B6, d6, m6, rfl, _, _, own, _, own2, bel⟩
         have q := s7_go (by assumption) bel)
      | (go_at_call 94
         refine (eqP_same _ rfl rfl (s7_rd HOA.out (by assumption)) (own_rd own) rfl rfl (s7_rs HOB.out (by assumption)) (ownSS_rd own2) (by omega) (by omega)).mono ?_
         rintro e w5 ⟨rfl, bel2⟩
         have q := s7_go (by assumption) bel2))
  clear hbc0 hbc1 hbc2 hx0 hx1 hx2
  have s7 : w4.heap.size ≤ w5.heap.size := (q.1).size
  have BX7 := Lib.hid (BX6.out.go q.1)
  have XC13 := Lib.hid (XC10.out.go q.1)
  have Oyr_14 := Lib.hid (own_below Oyr_11.out q.1 (Nat.le_refl _))
  have Oyb_15 := Lib.hid (ownSS_below Oyb_12.out q.1 (Nat.le_refl _))
  clear BX6 XC10 Oyr_11 Oyb_12
  clear HAK HBK HOA HOB q own own2
  have hbc0 := BX7.out.cell0
  have hbc1 := BX7.out.cell1
  have hbc2 := BX7.out.cell2
  have hx0 := XC13.out.cell (i := 0) rfl
  have hx1 := XC13.out.cell (i := 1) rfl
  have hx2 := XC13.out.cell (i := 2) rfl
  go_wp2
  go_ret
  exact ⟨rfl, BX7.out.below⟩

theorem walk_FnExactIsLattice (r0 : Int) (a0 : Option Addr) (len0 cap0 : Nat) (z0 : List Int) (a1 : Option Addr) (len1 cap1 : Nat) (z1 : List (List Int)) (w : World) (w0 : IsRow .i64 w a0 len0 cap0 z0) (w1 : IsRows w a1 len1 z1) :
    Calls Try.prog 24 #[.agg #[.int .i64 r0, .slice a0 len0 cap0, .slice a1 len1 cap1]] w fun e w' => e = .returned (.bool true) ∧ Below w.heap.size w w' := by
  obtain ⟨x0, hx0, ha0, _, hm0⟩ := isRow_rd w0
  obtain ⟨hy0, hb0, hm1⟩ := w1
  subst hx0
  subst hy0
  exact law_IsLattice w ha0 hb0 hm0 hm1
end Go.Proofs.Ytdhcklfpammhkaa
