/- spec.DrawStabilizerOf. -/
import Derived.Test.YtmgoaabeopnopaaL26
import Derived.Test.YtmgoaabeopnopaaFl3
namespace Go.Proofs.Ytmgoaabeopnopaa
open Go.RowKit

section
variable {A : Option Addr} {n c : Nat} {bs : List Value}
set_option maxRecDepth 100000 in
set_option maxHeartbeats 6400000 in
theorem drawSB (w : World) (hl : bs.length = n) (hr : Rd w A bs) (hu : ∀ v ∈ bs, ∃ x : Nat, v = .int .u8 x ∧ x < 256) (hn : n ≤ 1048576) :
    Calls Try.prog 69 #[.slice A n c] w (RetX2 w) := by
  have HR := Lib.hid (hr.keep ((Below.refl _ _).alloc (Nat.le_refl _) (.cells #[.slice none 0 0] 27)))
  have HL := Lib.hid hl
  have HU := Lib.hid hu
  have S0 := Lib.hid ((St.start w).addBlk #[.slice none 0 0] 27)
  clear hl hr hu
  go_enter Try.func69, Try.ntmps69
  go_wp2_with fail
  refine (from_any _ HL.out HR.out HU.out hn).mono ?_
  rintro e w1 ⟨g, at', h', rfl, hg, hg1, src, bel⟩
  have HG := Lib.hid (show w.heap.size < g by simp at hg; omega)
  have hG : (w.alloc (.cells #[.slice none 0 0] 27)).heap.size ≤ g := hg
  have B1 := Lib.hid bel
  have D1 := Lib.hid (Dr.start (show SrcE w1 g A n c bs from ⟨at', h', src⟩))
  have T1 := Lib.hid (St.start w1)
  clear src bel hg hg1
  go_wp2_with fail
  refine (evenP _ (D1.out.now T1.out) hn).mono ?_
  rintro e w2 ⟨wb_, A', N, c', xss, rfl, hl, hN, hR, hc, hc63, d_, st_⟩
  obtain ⟨wb3, d2_, st2_⟩ := D1.out.join T1.out d_ st_
  have B2 := Lib.hid (Turns.below B1.out (d_.fin st_).1 B1.out.size hG)
  have D3 := Lib.hid d2_
  obtain ⟨w3, hw3⟩ : ∃ x, x = w2.alloc (.cells #[.slice A' N c'] 27) := ⟨_, rfl⟩
  have T3 := Lib.hid (show St wb3 w3 [.rds A' xss, .blk w2.heap.size #[.slice A' N c'] 27] from by rw [hw3]; exact st2_.addBlk #[.slice A' N c'] 27)
  have B3 := Lib.hid (show Below _ _ w3 from by rw [hw3]; exact B2.out.alloc B2.out.size (.cells #[.slice A' N c'] 27))
  have HW3 := Lib.hid hw3
  have HX := Lib.hid hl
  have HRR := Lib.hid (show ∀ xs ∈ xss, (xs.length : Int) ≤ 1048576 from fun xs hx => by have := hR xs hx; omega)
  clear d_ st_ d2_ st2_ hl hR hw3
  obtain ⟨z, hz⟩ : ∃ z : Int, (N : Int) - 1 = z := ⟨_, rfl⟩
  have hz0 : -1 ≤ z := by omega
  have hz1 : z ≤ 1048576 := by omega
  have hzw : IntKind.i64.wrap ((N : Int) - 1) = z := (IntWalk.i64_in _ (by omega)).trans hz
  clear hz
  have x3 := (T3.out.blk (i := 1) rfl).cell (i := 0) rfl
  have T3l := Lib.hid (T3.out.addLit4 (.int .i64 0) (.int .i64 1) (.int .i64 2) (.int .i64 3) 2)
  have x3l := (T3l.out.blk (i := 1) rfl).cell (i := 0) rfl
  have Tn := Lib.hid (T3.out.go (below_drewN (Below.refl _ _) 1))
  have Bn := Lib.hid (below_drewN B3.out 1)
  have Tl := Lib.hid (T3l.out.go (below_drewN (Below.refl _ _) 1))
  have Bl := Lib.hid (below_drewN (B3.out.alloc B3.out.size (.cells #[.int .i64 0, .int .i64 1, .int .i64 2, .int .i64 3] 2)) 1)
  have Ql := Lib.hid (D3.out.out T3.out)
  go_wp2
  rw [← HW3.out]
  go_region_law ((first
    | (go_simp; go_at_call 126
       first
       | refine (countP _ (D5.out.now T5.out) hn hq0.1 hq0.2).mono ?_
         rintro e w6 ⟨k2, rfl, _, hs_, tu_⟩
         obtain ⟨wb6, d_, st_⟩ := D5.out.num T5.out hs_ tu_
         have D6 := Lib.hid d_
         have T6 := Lib.hid st_
         have B6 := Lib.hid (Turns.below B5.out tu_ B5.out.size hG)
         have SE := Lib.hid (S0.out.go B6.out)
         have x6 := (T6.out.blk (i := 1) rfl).cell (i := 0) rfl
         have z0 := (SE.out.blk (i := 0) rfl).cell (i := 0) rfl
         have f0 := (SE.out.blk (i := 0) rfl).free 0
         clear d_ st_ hs_ tu_
       | refine (countP _ (D3.out.now Tn.out) hn hz0 hz1).mono ?_
         rintro e w4 ⟨k1, rfl, _, hs_, tu_⟩
         obtain ⟨wb4, d_, st_⟩ := D3.out.num Tn.out hs_ tu_
         have D4 := Lib.hid d_
         have T4 := Lib.hid st_
         have B4 := Lib.hid (Turns.below Bn.out tu_ Bn.out.size hG)
         have x4 := (T4.out.blk (i := 1) rfl).cell (i := 0) rfl
         have T4l := Lib.hid (T4.out.addLit4 (.int .i64 0) (.int .i64 1) (.int .i64 2) (.int .i64 3) 2)
         have x4l := (T4l.out.blk (i := 1) rfl).cell (i := 0) rfl
         have B4l := Lib.hid (B4.out.alloc B4.out.size (.cells #[.int .i64 0, .int .i64 1, .int .i64 2, .int .i64 3] 2))
         have Q4 := Lib.hid (D4.out.out T4.out)
         clear d_ st_ hs_ tu_
       | refine (countP _ (D3.out.now Tl.out) hn hz0 hz1).mono ?_
         rintro e w4 ⟨k1, rfl, _, hs_, tu_⟩
         obtain ⟨wb4, d_, st_⟩ := D3.out.num Tl.out hs_ tu_
         have D4y := Lib.hid d_
         have T4y := Lib.hid (show St wb4 w4 [.rds A' xss, .blk w2.heap.size #[.slice A' N c'] 27, .own 2 (some ⟨w3.heap.size, 0, none⟩) 4 4 [.int .i64 0, .int .i64 1, .int .i64 2, .int .i64 3]] from st_)
         have B4y := Lib.hid (Turns.below Bl.out tu_ Bl.out.size hG)
         have x4 := (T4y.out.blk (i := 1) rfl).cell (i := 0) rfl
         clear d_ st_ hs_ tu_)
    | (go_simp; go_at_call 117
       first
       | refine (pickE (m := 4) (c2 := 4) (xs := [0, 1, 2, 3]) _ (D4y.out.now T4y.out) hn rfl (by decide) (by decide) (own_rd (T4y.out.own (i := 2) rfl)) Ql.out).mono ?_
         rintro e w5 ⟨q, rfl, hq, hs_, tu_⟩
         obtain ⟨wb5, d_, st_⟩ := D4y.out.num T4y.out hs_ tu_
         have D5 := Lib.hid d_
         have T5 := Lib.hid st_
         have B5 := Lib.hid (Turns.below B4y.out tu_ B4y.out.size hG)
         have x5 := (T5.out.blk (i := 1) rfl).cell (i := 0) rfl
         have hq0 : -1 ≤ q ∧ q ≤ 1048576 := by simp at hq; omega
         clear d_ st_ hs_ tu_ hq
       | refine (pickE (m := 4) (c2 := 4) (xs := [0, 1, 2, 3]) _ (D4.out.now T4l.out) hn rfl (by decide) (by decide) (own_rd (T4l.out.own (i := 2) rfl)) Q4.out).mono ?_
         rintro e w5 ⟨q, rfl, hq, hs_, tu_⟩
         obtain ⟨wb5, d_, st_⟩ := D4.out.num T4l.out hs_ tu_
         have D5 := Lib.hid d_
         have T5 := Lib.hid st_
         have B5 := Lib.hid (Turns.below B4l.out tu_ B4l.out.size hG)
         have x5 := (T5.out.blk (i := 1) rfl).cell (i := 0) rfl
         have hq0 : -1 ≤ q ∧ q ≤ 1048576 := by simp at hq; omega
         clear d_ st_ hs_ tu_ hq)))
  all_goals
    have hlt := HG.out
    go_wp2
    have st4 := SE.out.blkSet (i := 0) rfl 0 (.slice A' N c')
    have y0 := (st4.blk (i := 0) rfl).cell (i := 0) rfl
    exact bodyPost_ret (v := .tuple #[.agg #[.slice A' N c'], .int .i64 k1, .int .i64 k2]) (by simp [results, Try.results69, go_sem, y0]) rfl ⟨A', N, c', xss, _, _, rfl, HX.out, hN, HRR.out, hc, hc63, rds_setP T6.out.sep (i := 0) rfl (Nat.lt_trans hlt D6.out.lt), st4.below⟩
end
end Go.Proofs.Ytmgoaabeopnopaa
