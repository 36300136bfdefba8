import Derived.Test.YtmikoihpmhfafaaAz
import Derived.Test.YtmikoihpmhfafaaL12
import Derived.Test.YtmikoihpmhfafaaL1
namespace Go.Proofs.Ytmikoihpmhfafaa
open Go.RowKit

set_option maxHeartbeats 6400000 in
set_option maxRecDepth 8000 in
theorem law_IsTransitiveOn {A0 : Option Addr} {c0 : Nat} {x0 : List (List Int)} {n0 : Nat} {k1 : Int} (w : World) (hx0 : x0.length = n0) (ha0 : RdSS w A0 x0) (hm0 : n0 ≤ maxLen) (hw1 : (Lit.int .i64 k1).wf = true) :
    Calls Try.prog 20 #[.agg #[.slice A0 n0 c0], .int .i64 k1] w fun e w' => e = .returned (.bool true) ∧ Below w.heap.size w w' := by
  unfold maxLen at hm0
  have HX0 := Lib.hid hx0
  have HA0 := Lib.hid ha0
  clear hx0 ha0
  have HW1 := Lib.hid hw1
  clear hw1
  have st0 := ((St.start w).addBlk #[.slice A0 n0 c0] 68)
  have S0 := Lib.hid (show St w (w.alloc (.cells #[.slice A0 n0 c0] 68)) [.blk (w.heap.size) #[.slice A0 n0 c0] 68] from st0)
  clear st0
  go_enter Try.func20, Try.ntmps20
  have h_a0_0 := (S0.out.blk (i := 0) rfl).cell (i := 0) rfl
  go_wp2_with fail
  clear h_a0_0
  refine (szM_any _ HX0.out (HA0.out.keep S0.out.below) hm0).mono ?_
  rintro e w1 ⟨r, rfl, g0, g1, g2, bel⟩
  have S1 := Lib.hid (show St w w1 [.blk (w.heap.size) #[.slice A0 n0 c0] 68] from S0.out.go bel)
  clear S0
  clear bel
  by_cases hneg : r < 0
  · clear g2
    go_wp2
    go_ret
    exact ⟨rfl, S1.out.below⟩
  have hpr : 0 ≤ r := by omega
  have hqr : r ≤ 1048576 := g1
  have hz := g2 (by omega)
  have hb0 : n0 ≤ 1048576 := by have := hz.1; rw [HX0.out] at this; omega
  have HR0 := Lib.hid hz.2
  clear g2 hz
  have h_a0_0 := (S1.out.blk (i := 0) rfl).cell (i := 0) rfl
  go_wp2_with fail
  clear h_a0_0
  refine (toM_any _ HX0.out (HA0.out.keep S1.out.below) hb0 HR0.out).mono ?_
  rintro e w2 ⟨Aa0_, ca0_, rfl, own, bel⟩
  obtain ⟨vsa0_, st⟩ := S1.out.addRows bel own (Nat.le_refl _) (Nat.le_refl _)
  have S2 := Lib.hid (show St w w2 [.blk (w.heap.size) #[.slice A0 n0 c0] 68, .rows 2 31 Aa0_ (n0) ca0_ vsa0_ (x0)] from st)
  clear S1
  clear st bel own
  have h_a0_0 := (S2.out.blk (i := 0) rfl).cell (i := 0) rfl
  go_wp2_with fail
  clear h_a0_0
  refine (sIsTransitiveOn_any k1 _ HX0.out (ownSS_rd (S2.out.sep.ownSS (i := 1) rfl)) hb0 HR0.out).mono ?_
  rintro e w3 ⟨rfl, bel⟩
  have S3 := Lib.hid (show St w w3 [.blk (w.heap.size) #[.slice A0 n0 c0] 68, .rows 2 31 Aa0_ (n0) ca0_ vsa0_ (x0)] from S2.out.go bel)
  clear S2
  clear bel
  have S4 := Lib.hid (show St w w3 [.blk (w.heap.size) #[.slice A0 n0 c0] 68] from S3.out.drop 1)
  clear S3
  have h_a0_0 := (S4.out.blk (i := 0) rfl).cell (i := 0) rfl
  go_wp2_with fail
  clear h_a0_0
  refine (toM_any _ HX0.out (HA0.out.keep S4.out.below) hb0 HR0.out).mono ?_
  rintro e w4 ⟨Ay0, cy0, rfl, own, bel⟩
  obtain ⟨vsy0, st⟩ := S4.out.addRows bel own (Nat.le_refl _) (Nat.le_refl _)
  have S5 := Lib.hid (show St w w4 [.blk (w.heap.size) #[.slice A0 n0 c0] 68, .rows 2 31 Ay0 (n0) cy0 vsy0 (x0)] from st)
  clear S4
  clear st bel own
  have S6 := Lib.hid (show St w (w4.alloc (.cells #[.slice Ay0 n0 cy0] 26)) [.blk (w.heap.size) #[.slice A0 n0 c0] 68, .rows 2 31 Ay0 (n0) cy0 vsy0 (x0), .blk w4.heap.size #[.slice Ay0 n0 cy0] 26] from S5.out.addBlk #[.slice Ay0 n0 cy0] 26)
  clear S5
  have h_a0_0 := (S6.out.blk (i := 0) rfl).cell (i := 0) rfl
  have h_x0_0 := (S6.out.blk (i := 2) rfl).cell (i := 0) rfl
  go_wp2_with fail
  clear h_a0_0 h_x0_0
  refine (iIsTransitiveOn_any k1 _ HX0.out (ownSS_rd (S6.out.sep.ownSS (i := 1) rfl)) hb0 HR0.out (ownSS_cap (S6.out.sep.ownSS (i := 1) rfl)).1 (ownSS_cap (S6.out.sep.ownSS (i := 1) rfl)).2).mono ?_
  rintro e w5 ⟨rfl, bel⟩
  have S7 := Lib.hid (show St w w5 [.blk (w.heap.size) #[.slice A0 n0 c0] 68, .rows 2 31 Ay0 (n0) cy0 vsy0 (x0), .blk w4.heap.size #[.slice Ay0 n0 cy0] 26] from S6.out.go bel)
  clear S6
  clear bel
  have hne : ∀ x : Bool, (x != x) = false := fun x => by simp
  have HAK := Lib.hid (HA0.out.keep S7.out.below)
  have HOK := Lib.hid (ownSS_rd (S7.out.sep.ownSS (i := 1) rfl))
  have h_a0_0 := (S7.out.blk (i := 0) rfl).cell (i := 0) rfl
  have h_x0_0 := (S7.out.blk (i := 2) rfl).cell (i := 0) rfl
  go_wp2_with fail
  clear hne
  go_region_held3 (fun w' => Below w5.heap.size w5 w' ∧ w'.cell? ⟨w.heap.size, 0, none⟩ = some (.slice A0 n0 c0) ∧ w'.cell? ⟨w4.heap.size, 0, none⟩ = some (.slice Ay0 n0 cy0)) (first | (exact ⟨below_drewN (Below.refl _ _) 1, h_a0_0, h_x0_0⟩) | (exact q))
    (first
      | (go_at_call 74
         refine (toM_any _ HX0.out (rd_s3 HAK.out (by assumption)) hb0 HR0.out).mono ?_
         rintro e wc ⟨A6, c6, rfl, own, bel⟩
         have q := s3_go (by assumption) bel)
      | (go_at_call 76
         refine (eqM_same _ HX0.out HX0.out (rd_s3 HOK.out (by assumption)) (ownSS_rd own) (by omega)).mono ?_
         rintro e w6 ⟨rfl, bel2⟩
         have q := s3_go (by assumption) bel2))
  clear h_a0_0 h_x0_0
  have S8 := Lib.hid (show St w w6 [.blk (w.heap.size) #[.slice A0 n0 c0] 68, .rows 2 31 Ay0 (n0) cy0 vsy0 (x0), .blk w4.heap.size #[.slice Ay0 n0 cy0] 26] from S7.out.go q.1)
  clear S7
  clear HAK HOK q own
  have h_a0_0 := (S8.out.blk (i := 0) rfl).cell (i := 0) rfl
  have h_x0_0 := (S8.out.blk (i := 2) rfl).cell (i := 0) rfl
  go_wp2
  go_ret
  exact ⟨rfl, S8.out.below⟩

theorem walk_FnExactIsTransitiveOn (a0 : Option Addr) (len0 cap0 : Nat) (z0 : List (List Int)) (a1 : Int) (w : World) (w0 : IsRows w a0 len0 z0) (w1 : (Lit.int .i64 a1).wf = true) :
    Calls Try.prog 20 #[.agg #[.slice a0 len0 cap0], .int .i64 a1] w fun e w' => e = .returned (.bool true) ∧ Below w.heap.size w w' := by
  obtain ⟨hx0, ha0, hm0⟩ := w0
  exact law_IsTransitiveOn w hx0 ha0 hm0 w1
end Go.Proofs.Ytmikoihpmhfafaa
