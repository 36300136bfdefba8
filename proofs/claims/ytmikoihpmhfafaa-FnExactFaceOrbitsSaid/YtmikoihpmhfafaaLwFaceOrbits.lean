import Derived.Test.YtmikoihpmhfafaaAz
import Derived.Test.YtmikoihpmhfafaaL12
import Derived.Test.YtmikoihpmhfafaaL1
namespace Go.Proofs.Ytmikoihpmhfafaa
open Go.RowKit

set_option maxHeartbeats 6400000 in
set_option maxRecDepth 8000 in
theorem law_FaceOrbits {A0 : Option Addr} {c0 : Nat} {x0 : List (List Int)} {n0 : Nat} {k1 : Int} (w : World) (hx0 : x0.length = n0) (ha0 : RdSS w A0 x0) (hm0 : n0 ≤ maxLen) (hw1 : (Lit.int .i64 k1).wf = true) :
    Calls Try.prog 15 #[.agg #[.slice A0 n0 c0], .int .i64 k1] w fun e w' => e = .returned (.bool true) ∧ Below w.heap.size w w' := by
  unfold maxLen at hm0
  have HX0 := Lib.hid hx0
  have HA0 := Lib.hid ha0
  clear hx0 ha0
  have HW1 := Lib.hid hw1
  clear hw1
  have st0 := ((St.start w).addBlk #[.slice A0 n0 c0] 68)
  have S0 := Lib.hid (show St w (w.alloc (.cells #[.slice A0 n0 c0] 68)) [.blk (w.heap.size) #[.slice A0 n0 c0] 68] from st0)
  clear st0
  go_enter Try.func15, Try.ntmps15
  have h_a0_0 := (S0.out.blk (i := 0) rfl).cell (i := 0) rfl
  go_wp2_with fail
  clear h_a0_0
  refine (szM_any _ HX0.out (HA0.out.keep S0.out.below) hm0).mono ?_
  rintro e w1 ⟨r, rfl, g0, g1, g2, bel⟩
  have S1 := Lib.hid (show St w w1 [.blk (w.heap.size) #[.slice A0 n0 c0] 68] from S0.out.go bel)
  clear S0
  clear bel
  by_cases hneg : r < 0
  · clear g2
    go_wp2
    go_ret
    exact ⟨rfl, S1.out.below⟩
  have hpr : 0 ≤ r := by omega
  have hqr : r ≤ 1048576 := g1
  have hz := g2 (by omega)
  have hb0 : n0 ≤ 1048576 := by have := hz.1; rw [HX0.out] at this; omega
  have HR0 := Lib.hid hz.2
  clear g2 hz
  have h_a0_0 := (S1.out.blk (i := 0) rfl).cell (i := 0) rfl
  go_wp2_with fail
  clear h_a0_0
  refine (toM_any _ HX0.out (HA0.out.keep S1.out.below) hb0 HR0.out).mono ?_
  rintro e w2 ⟨Aa0_, ca0_, rfl, own, bel⟩
  obtain ⟨vsa0_, st⟩ := S1.out.addRows bel own (Nat.le_refl _) (Nat.le_refl _)
  have S2 := Lib.hid (show St w w2 [.blk (w.heap.size) #[.slice A0 n0 c0] 68, .rows 2 31 Aa0_ (n0) ca0_ vsa0_ (x0)] from st)
  clear S1
  clear st bel own
  have h_a0_0 := (S2.out.blk (i := 0) rfl).cell (i := 0) rfl
  go_wp2_with fail
  clear h_a0_0
  refine (sFaceOrbits_any k1 _ HX0.out (ownSS_rd (S2.out.sep.ownSS (i := 1) rfl)) hb0 HR0.out).mono ?_
  rintro e w3 ⟨Av, cv, rfl, own, bel⟩
  have S3 := Lib.hid (show St w w3 [.blk (w.heap.size) #[.slice A0 n0 c0] 68, .rows 2 31 Aa0_ (n0) ca0_ vsa0_ (x0), .own 2 Av ((foR6 x0 k1).length) cv (ints (foR6 x0 k1))] from S2.out.addOwn bel own (Nat.le_refl _))
  clear S2
  clear bel own
  have S4 := Lib.hid (show St w w3 [.blk (w.heap.size) #[.slice A0 n0 c0] 68, .own 2 Av ((foR6 x0 k1).length) cv (ints (foR6 x0 k1))] from S3.out.drop 1)
  clear S3
  have h_a0_0 := (S4.out.blk (i := 0) rfl).cell (i := 0) rfl
  go_wp2_with fail
  clear h_a0_0
  refine (toM_any _ HX0.out (HA0.out.keep S4.out.below) hb0 HR0.out).mono ?_
  rintro e w4 ⟨Ay0, cy0, rfl, own, bel⟩
  obtain ⟨vsy0, st⟩ := S4.out.addRows bel own (Nat.le_refl _) (Nat.le_refl _)
  have S5 := Lib.hid (show St w w4 [.blk (w.heap.size) #[.slice A0 n0 c0] 68, .own 2 Av ((foR6 x0 k1).length) cv (ints (foR6 x0 k1)), .rows 2 31 Ay0 (n0) cy0 vsy0 (x0)] from st)
  clear S4
  clear st bel own
  have S6 := Lib.hid (show St w (w4.alloc (.cells #[.slice Ay0 n0 cy0] 26)) [.blk (w.heap.size) #[.slice A0 n0 c0] 68, .own 2 Av ((foR6 x0 k1).length) cv (ints (foR6 x0 k1)), .rows 2 31 Ay0 (n0) cy0 vsy0 (x0), .blk w4.heap.size #[.slice Ay0 n0 cy0] 26] from S5.out.addBlk #[.slice Ay0 n0 cy0] 26)
  clear S5
  have h_a0_0 := (S6.out.blk (i := 0) rfl).cell (i := 0) rfl
  have h_x0_0 := (S6.out.blk (i := 3) rfl).cell (i := 0) rfl
  go_wp2_with fail
  clear h_a0_0 h_x0_0
  refine (iFaceOrbits_any k1 _ HX0.out (ownSS_rd (S6.out.sep.ownSS (i := 2) rfl)) hb0 HR0.out (ownSS_cap (S6.out.sep.ownSS (i := 2) rfl)).1 (ownSS_cap (S6.out.sep.ownSS (i := 2) rfl)).2).mono ?_
  rintro e w5 ⟨Ag, cg, rfl, own, bel⟩
  have S7 := Lib.hid (show St w w5 [.blk (w.heap.size) #[.slice A0 n0 c0] 68, .own 2 Av ((foR6 x0 k1).length) cv (ints (foR6 x0 k1)), .rows 2 31 Ay0 (n0) cy0 vsy0 (x0), .blk w4.heap.size #[.slice Ay0 n0 cy0] 26, .own 2 Ag ((foR6 x0 k1).length) cg (ints (foR6 x0 k1))] from S6.out.addOwn bel own (Nat.le_refl _))
  clear S6
  clear bel own
  have hlen : (foR6 x0 k1).length ≤ 1048576 := foR6_le _ _
  have h_a0_0 := (S7.out.blk (i := 0) rfl).cell (i := 0) rfl
  have h_x0_0 := (S7.out.blk (i := 3) rfl).cell (i := 0) rfl
  go_wp2_with fail
  clear h_a0_0 h_x0_0
  refine (eq_same _ rfl rfl (own_rd (S7.out.own (i := 4) rfl)) (own_rd (S7.out.own (i := 1) rfl)) (by omega)).mono ?_
  rintro e w6 ⟨rfl, bel⟩
  have S8 := Lib.hid (show St w w6 [.blk (w.heap.size) #[.slice A0 n0 c0] 68, .own 2 Av ((foR6 x0 k1).length) cv (ints (foR6 x0 k1)), .rows 2 31 Ay0 (n0) cy0 vsy0 (x0), .blk w4.heap.size #[.slice Ay0 n0 cy0] 26, .own 2 Ag ((foR6 x0 k1).length) cg (ints (foR6 x0 k1))] from S7.out.go bel)
  clear S7
  clear bel
  have HAK := Lib.hid (HA0.out.keep S8.out.below)
  have HOK := Lib.hid (ownSS_rd (S8.out.sep.ownSS (i := 2) rfl))
  have h_a0_0 := (S8.out.blk (i := 0) rfl).cell (i := 0) rfl
  have h_x0_0 := (S8.out.blk (i := 3) rfl).cell (i := 0) rfl
  go_wp2_with fail
  go_region_held3 (fun w' => Below w6.heap.size w6 w' ∧ w'.cell? ⟨w.heap.size, 0, none⟩ = some (.slice A0 n0 c0) ∧ w'.cell? ⟨w4.heap.size, 0, none⟩ = some (.slice Ay0 n0 cy0)) (first | (exact ⟨below_drewN (Below.refl _ _) 1, h_a0_0, h_x0_0⟩) | (exact q))
    (first
      | (go_at_call 74
         refine (toM_any _ HX0.out (rd_s3 HAK.out (by assumption)) hb0 HR0.out).mono ?_
         rintro e wc ⟨A6, c6, rfl, own, bel⟩
         have q := s3_go (by assumption) bel)
      | (go_at_call 76
         refine (eqM_same _ HX0.out HX0.out (rd_s3 HOK.out (by assumption)) (ownSS_rd own) (by omega)).mono ?_
         rintro e w7 ⟨rfl, bel2⟩
         have q := s3_go (by assumption) bel2))
  clear h_a0_0 h_x0_0
  have S9 := Lib.hid (show St w w7 [.blk (w.heap.size) #[.slice A0 n0 c0] 68, .own 2 Av ((foR6 x0 k1).length) cv (ints (foR6 x0 k1)), .rows 2 31 Ay0 (n0) cy0 vsy0 (x0), .blk w4.heap.size #[.slice Ay0 n0 cy0] 26, .own 2 Ag ((foR6 x0 k1).length) cg (ints (foR6 x0 k1))] from S8.out.go q.1)
  clear S8
  clear HAK HOK q own
  have ht0 := totalL_le HR0.out x0.length
  rw [List.take_length, HX0.out] at ht0
  have h_a0_0 := (S9.out.blk (i := 0) rfl).cell (i := 0) rfl
  have h_x0_0 := (S9.out.blk (i := 3) rfl).cell (i := 0) rfl
  go_wp2_with fail
  clear h_a0_0 h_x0_0
  refine (markM_st (1) _ S9.out (i := 2) rfl (by decide) hb0 HR0.out (by omega) (by omega)).mono ?_
  rintro e w8 ⟨rfl, st⟩
  have S10 := Lib.hid (show St w w8 [.blk (w.heap.size) #[.slice A0 n0 c0] 68, .own 2 Av ((foR6 x0 k1).length) cv (ints (foR6 x0 k1)), .rows 2 31 Ay0 (n0) cy0 vsy0 (marksSS (1) x0), .blk w4.heap.size #[.slice Ay0 n0 cy0] 26, .own 2 Ag ((foR6 x0 k1).length) cg (ints (foR6 x0 k1))] from st)
  clear S9
  clear st
  have h_a0_0 := (S10.out.blk (i := 0) rfl).cell (i := 0) rfl
  have h_x0_0 := (S10.out.blk (i := 3) rfl).cell (i := 0) rfl
  go_wp2_with fail
  clear h_a0_0 h_x0_0
  refine (eq_same _ rfl rfl (own_rd (S10.out.own (i := 4) rfl)) (own_rd (S10.out.own (i := 1) rfl)) (by omega)).mono ?_
  rintro e w9 ⟨rfl, bel⟩
  have S11 := Lib.hid (show St w w9 [.blk (w.heap.size) #[.slice A0 n0 c0] 68, .own 2 Av ((foR6 x0 k1).length) cv (ints (foR6 x0 k1)), .rows 2 31 Ay0 (n0) cy0 vsy0 (marksSS (1) x0), .blk w4.heap.size #[.slice Ay0 n0 cy0] 26, .own 2 Ag ((foR6 x0 k1).length) cg (ints (foR6 x0 k1))] from S10.out.go bel)
  clear S10
  clear bel
  have h_a0_0 := (S11.out.blk (i := 0) rfl).cell (i := 0) rfl
  have h_x0_0 := (S11.out.blk (i := 3) rfl).cell (i := 0) rfl
  go_wp2_with fail
  clear h_a0_0 h_x0_0
  refine (mark_st 1 _ S11.out (i := 4) rfl hlen (by omega) (by omega)).mono ?_
  rintro e w10 ⟨rfl, st⟩
  have S12 := Lib.hid (show St w w10 [.blk (w.heap.size) #[.slice A0 n0 c0] 68, .own 2 Av ((foR6 x0 k1).length) cv (ints (foR6 x0 k1)), .rows 2 31 Ay0 (n0) cy0 vsy0 (marksSS (1) x0), .blk w4.heap.size #[.slice Ay0 n0 cy0] 26, .own 2 Ag ((foR6 x0 k1).length) cg (ints (marks 1 (foR6 x0 k1).length))] from st)
  clear S11
  clear st
  have h_a0_0 := (S12.out.blk (i := 0) rfl).cell (i := 0) rfl
  have h_x0_0 := (S12.out.blk (i := 3) rfl).cell (i := 0) rfl
  go_wp2_with fail
  clear h_a0_0 h_x0_0
  refine (held_any 1 _ (own_rd (S12.out.own (i := 4) rfl)) hlen (by omega) (by omega)).mono ?_
  rintro e wz ⟨rfl, rfl⟩
  have h_a0_0 := (S12.out.blk (i := 0) rfl).cell (i := 0) rfl
  have h_x0_0 := (S12.out.blk (i := 3) rfl).cell (i := 0) rfl
  go_wp2_with fail
  clear h_a0_0 h_x0_0
  refine (toM_any _ HX0.out (HA0.out.keep S12.out.below) hb0 HR0.out).mono ?_
  rintro e w11 ⟨Ab0_, cb0_, rfl, own, bel⟩
  obtain ⟨vsb0_, st⟩ := S12.out.addRows bel own (Nat.le_refl _) (Nat.le_refl _)
  have S13 := Lib.hid (show St w w11 [.blk (w.heap.size) #[.slice A0 n0 c0] 68, .own 2 Av ((foR6 x0 k1).length) cv (ints (foR6 x0 k1)), .rows 2 31 Ay0 (n0) cy0 vsy0 (marksSS (1) x0), .blk w4.heap.size #[.slice Ay0 n0 cy0] 26, .own 2 Ag ((foR6 x0 k1).length) cg (ints (marks 1 (foR6 x0 k1).length)), .rows 2 31 Ab0_ (n0) cb0_ vsb0_ (x0)] from st)
  clear S12
  clear st bel own
  have h_a0_0 := (S13.out.blk (i := 0) rfl).cell (i := 0) rfl
  have h_x0_0 := (S13.out.blk (i := 3) rfl).cell (i := 0) rfl
  go_wp2_with fail
  clear h_a0_0 h_x0_0
  refine (iFaceOrbits_any k1 _ HX0.out (ownSS_rd (S13.out.sep.ownSS (i := 5) rfl)) hb0 HR0.out (ownSS_cap (S13.out.sep.ownSS (i := 5) rfl)).1 (ownSS_cap (S13.out.sep.ownSS (i := 5) rfl)).2).mono ?_
  rintro e w12 ⟨Ah, ch, rfl, own, bel⟩
  have S14 := Lib.hid (show St w w12 [.blk (w.heap.size) #[.slice A0 n0 c0] 68, .own 2 Av ((foR6 x0 k1).length) cv (ints (foR6 x0 k1)), .rows 2 31 Ay0 (n0) cy0 vsy0 (marksSS (1) x0), .blk w4.heap.size #[.slice Ay0 n0 cy0] 26, .own 2 Ag ((foR6 x0 k1).length) cg (ints (marks 1 (foR6 x0 k1).length)), .rows 2 31 Ab0_ (n0) cb0_ vsb0_ (x0), .own 2 Ah ((foR6 x0 k1).length) ch (ints (foR6 x0 k1))] from S13.out.addOwn bel own (Nat.le_refl _))
  clear S13
  clear bel own
  have S15 := Lib.hid (show St w w12 [.blk (w.heap.size) #[.slice A0 n0 c0] 68, .own 2 Av ((foR6 x0 k1).length) cv (ints (foR6 x0 k1)), .rows 2 31 Ay0 (n0) cy0 vsy0 (marksSS (1) x0), .blk w4.heap.size #[.slice Ay0 n0 cy0] 26, .own 2 Ag ((foR6 x0 k1).length) cg (ints (marks 1 (foR6 x0 k1).length)), .own 2 Ah ((foR6 x0 k1).length) ch (ints (foR6 x0 k1))] from S14.out.drop 5)
  clear S14
  have h_a0_0 := (S15.out.blk (i := 0) rfl).cell (i := 0) rfl
  have h_x0_0 := (S15.out.blk (i := 3) rfl).cell (i := 0) rfl
  go_wp2_with fail
  clear h_a0_0 h_x0_0
  refine (eq_same _ rfl rfl (own_rd (S15.out.own (i := 5) rfl)) (own_rd (S15.out.own (i := 1) rfl)) (by omega)).mono ?_
  rintro e w13 ⟨rfl, bel⟩
  have S16 := Lib.hid (show St w w13 [.blk (w.heap.size) #[.slice A0 n0 c0] 68, .own 2 Av ((foR6 x0 k1).length) cv (ints (foR6 x0 k1)), .rows 2 31 Ay0 (n0) cy0 vsy0 (marksSS (1) x0), .blk w4.heap.size #[.slice Ay0 n0 cy0] 26, .own 2 Ag ((foR6 x0 k1).length) cg (ints (marks 1 (foR6 x0 k1).length)), .own 2 Ah ((foR6 x0 k1).length) ch (ints (foR6 x0 k1))] from S15.out.go bel)
  clear S15
  clear bel
  have h_a0_0 := (S16.out.blk (i := 0) rfl).cell (i := 0) rfl
  have h_x0_0 := (S16.out.blk (i := 3) rfl).cell (i := 0) rfl
  go_wp2_with fail
  clear h_a0_0 h_x0_0
  refine (held_any 1 _ (own_rd (S16.out.own (i := 4) rfl)) hlen (by omega) (by omega)).mono ?_
  rintro e wz ⟨rfl, rfl⟩
  have h_a0_0 := (S16.out.blk (i := 0) rfl).cell (i := 0) rfl
  have h_x0_0 := (S16.out.blk (i := 3) rfl).cell (i := 0) rfl
  go_wp2
  go_ret
  exact ⟨rfl, S16.out.below⟩

theorem walk_FnExactFaceOrbits (a0 : Option Addr) (len0 cap0 : Nat) (z0 : List (List Int)) (a1 : Int) (w : World) (w0 : IsRows w a0 len0 z0) (w1 : (Lit.int .i64 a1).wf = true) :
    Calls Try.prog 15 #[.agg #[.slice a0 len0 cap0], .int .i64 a1] w fun e w' => e = .returned (.bool true) ∧ Below w.heap.size w w' := by
  obtain ⟨hx0, ha0, hm0⟩ := w0
  exact law_FaceOrbits w hx0 ha0 hm0 w1
end Go.Proofs.Ytmikoihpmhfafaa
