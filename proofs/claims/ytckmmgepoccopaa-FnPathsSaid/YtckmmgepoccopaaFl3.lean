/- The draws of FnPaths, FnSections and FnFaceSections. -/
import Derived.Test.YtckmmgepoccopaaFl2
namespace Go.Proofs.Ytckmmgepoccopaa
open Go.RowKit

def RetX2 (w : World) (e : Ending) (w' : World) : Prop :=
  ∃ (A' : Option Addr) (N c' : Nat) (xss : List (List Int)) (k1 k2 : Int), e = .returned (.tuple #[.agg #[.slice A' N c'], .int .i64 k1, .int .i64 k2]) ∧ xss.length = N ∧ N ≤ 6 ∧ (∀ xs ∈ xss, (xs.length : Int) ≤ 1048576) ∧ N ≤ c' ∧ c' ≤ 9223372036854775807 ∧ RdSS w' A' xss ∧ Below w.heap.size w w'
def RetX3 (w : World) (e : Ending) (w' : World) : Prop :=
  ∃ (A' : Option Addr) (N c' : Nat) (xss : List (List Int)) (k1 k2 k3 : Int), e = .returned (.tuple #[.agg #[.slice A' N c'], .int .i64 k1, .int .i64 k2, .int .i64 k3]) ∧ xss.length = N ∧ N ≤ 6 ∧ (∀ xs ∈ xss, (xs.length : Int) ≤ 1048576) ∧ N ≤ c' ∧ c' ≤ 9223372036854775807 ∧ RdSS w' A' xss ∧ Below w.heap.size w w'
theorem rds_setP {w : World} {lo H k i : Nat} {A : Option Addr} {xss : List (List Int)} {v : Value} {Ps : List Pc} (h : Sep w lo Ps) (hi : Ps[i]? = some (.rds A xss)) (hH : H < lo) : RdSS (w.setCell ⟨H, k, none⟩ v) A xss := by
  obtain ⟨F, h1, h2⟩ := h.piece hi
  have h3 := (Pc.rds A xss).kept h1 (w' := w.setCell ⟨H, k, none⟩ v) fun b hb => by
    have := (h2 b hb).1
    have hne : H ≠ b := by omega
    simp [World.setCell, Array.getElem?_modify, hne]
  exact h3.1
section
variable {A : Option Addr} {g n c : Nat} {bs : List Value}
set_option maxRecDepth 100000 in
set_option maxHeartbeats 3200000 in
theorem drawFW (w : World) (hl : bs.length = n) (hr : Rd w A bs) (hu : ∀ v ∈ bs, ∃ x : Nat, v = .int .u8 x ∧ x < 256) (hn : n ≤ 1048576) :
    Calls Try.prog 25 #[.slice A n c] w (RetX2 w) := by
  have HR := Lib.hid (hr.keep ((Below.refl _ _).alloc (Nat.le_refl _) (.cells #[.slice none 0 0] 26)))
  have HL := Lib.hid hl
  have HU := Lib.hid hu
  have S0 := Lib.hid ((St.start w).addBlk #[.slice none 0 0] 26)
  clear hl hr hu
  go_enter Try.func25, Try.ntmps25
  go_wp2_with fail
  refine (from_any _ HL.out HR.out HU.out hn).mono ?_
  rintro e w1 ⟨g, at', h', rfl, hg, hg1, src, bel⟩
  have HG := Lib.hid (show w.heap.size < g by simp at hg; omega)
  have hG : (w.alloc (.cells #[.slice none 0 0] 26)).heap.size ≤ g := hg
  have B1 := Lib.hid bel
  have D1 := Lib.hid (Dr.start (show SrcE w1 g A n c bs from ⟨at', h', src⟩))
  have T1 := Lib.hid (St.start w1)
  clear src bel hg hg1
  go_wp2_with fail
  refine (nextE (N := 20) _ (D1.out.now T1.out) hn (by omega)).mono ?_
  rintro e w2 ⟨r, rfl, ⟨h0r, h1r⟩, hs_, tu_⟩
  obtain ⟨wb2, d_, st_⟩ := D1.out.num T1.out hs_ tu_
  have D2 := Lib.hid d_
  have T2 := Lib.hid st_
  have B2 := Lib.hid (Turns.below B1.out tu_ B1.out.size hG)
  clear d_ st_ hs_ tu_
  by_cases e0 : r = 0
  · subst e0
    have T3 := Lib.hid (T2.out.addLit3 (.int .i64 64) (.int .i64 65) (.int .i64 70) 2)
    have B3 := Lib.hid (B2.out.alloc B2.out.size (.cells #[.int .i64 64, .int .i64 65, .int .i64 70] 2))
    have Q := Lib.hid (D2.out.out T2.out)
    go_wp2_with fail
    refine (pickE (m := 3) (c2 := 3) (xs := [64, 65, 70]) _ (D2.out.now T3.out) hn rfl (by decide) (by decide) (own_rd (T3.out.own (i := 0) rfl)) Q.out).mono ?_
    rintro e w4 ⟨p, rfl, hp, hs_, tu_⟩
    obtain ⟨wb4, d_, st_⟩ := D2.out.num T3.out hs_ tu_
    have D4 := Lib.hid d_
    have T4 := Lib.hid st_
    have B4 := Lib.hid (Turns.below B3.out tu_ B3.out.size hG)
    clear d_ st_ hs_ tu_
    obtain ⟨p, rfl⟩ : ∃ p0 : Nat, p = (p0 : Int) := ⟨p.toNat, by simp at hp; omega⟩
    have hp1 : 1 ≤ p ∧ 2 * p ≤ 400 := by simp at hp; omega
    clear hp
    go_wp2_with fail
    refine (polyg_any (n := 2 * p) _ hp1.1 rfl hp1.2).mono ?_
    rintro e w5 ⟨A', c', vals, rfl, st_⟩
    have T5 := Lib.hid (T4.out.join st_)
    have B5 := Lib.hid (B4.out.trans (st_.below.mono B4.out.size))
    have hpl : (pgL (2 * p)).length = 2 := rfl
    have HPL := Lib.hid (show ∀ xs ∈ pgL (2 * p), (xs.length : Int) ≤ 1048576 from fun xs hx => by
      have := ((pg_ok hp1.1 hp1.2).inv xs hx).1
      omega)
    clear st_
    have T6 := Lib.hid (T5.out.addLit3 (.int .i64 63) (.int .i64 64) (.int .i64 65) 2)
    have B6 := Lib.hid (B5.out.alloc B5.out.size (.cells #[.int .i64 63, .int .i64 64, .int .i64 65] 2))
    have Q6 := Lib.hid (D4.out.out T5.out)
    go_wp2_with fail
    refine (pickE (m := 3) (c2 := 3) (xs := [63, 64, 65]) _ (D4.out.now T6.out) hn rfl (by decide) (by decide) (own_rd (T6.out.own (i := 2) rfl)) Q6.out).mono ?_
    rintro e w7 ⟨q, rfl, _, hs_, tu_⟩
    obtain ⟨wb7, d_, st_⟩ := D4.out.num T6.out hs_ tu_
    have D7 := Lib.hid d_
    have T7 := Lib.hid st_
    have B7 := Lib.hid (Turns.below B6.out tu_ B6.out.size hG)
    clear d_ st_ hs_ tu_
    have hcp := ownSS_cap (T7.out.sep.ownSS (i := 1) rfl)
    have T8 := Lib.hid (T7.out.less (i := 1) rfl (fun F h => rows_rds h))
    have SE := Lib.hid (S0.out.go B7.out)
    have hlt := HG.out
    have z0 := (SE.out.blk (i := 0) rfl).cell (i := 0) rfl
    have f0 := (SE.out.blk (i := 0) rfl).free 0
    go_wp2
    have st4 := SE.out.blkSet (i := 0) rfl 0 (.slice A' 2 c')
    have y0 := (st4.blk (i := 0) rfl).cell (i := 0) rfl
    exact bodyPost_ret (v := .tuple #[.agg #[.slice A' 2 c'], .int .i64 0, .int .i64 q]) (by simp [results, Try.results25, go_sem, y0]) rfl ⟨A', 2, c', pgL (2 * p), _, _, rfl, hpl, by decide, HPL.out, hcp.1, hcp.2, rds_setP (T8.out.sep) (i := 1) rfl (Nat.lt_trans hlt (D7.out.lt)), st4.below⟩
  have n0 : (r == 0) = false := by rw [beq_eq_false_iff_ne]; exact e0
  go_wp2_with fail
  refine (spoil2P (most := 60) _ (D2.out.now T2.out) hn (by omega) (by omega)).mono ?_
  rintro e w3 ⟨wb_, A', N, c', xss, rfl, hl, hN, hR, hc, hc63, d_, st_⟩
  obtain ⟨wb3, d2_, st2_⟩ := D2.out.join T2.out d_ st_
  have B3 := Lib.hid (Turns.below B2.out (d_.fin st_).1 B2.out.size hG)
  have D3 := Lib.hid d2_
  have T3 := Lib.hid (show St wb3 (w3.alloc (.cells #[.slice A' N c'] 26)) [.rds A' xss, .blk w3.heap.size #[.slice A' N c'] 26] from st2_.addBlk #[.slice A' N c'] 26)
  have B3 := Lib.hid (B3.out.alloc B3.out.size (.cells #[.slice A' N c'] 26))
  have HX := Lib.hid hl
  have HRR := Lib.hid (show ∀ xs ∈ xss, (xs.length : Int) ≤ 1048576 from fun xs hx => by have := hR xs hx; omega)
  clear d_ st_ d2_ st2_ hl hR
  have hbx := (T3.out.blk (i := 1) rfl).cell (i := 0) rfl
  have Td := Lib.hid (T3.out.go (below_drewN (Below.refl _ _) 1))
  have Bd := Lib.hid (below_drewN B3.out 1)
  have SD := Lib.hid (S0.out.go Bd.out)
  go_wp2
  go_region_law ((first
    | (refine step_call rfl 88 #[.tmp 22, .tmp 23] #[77, 26] (by rfl) Try.func88 (by rfl) (by rfl) #[.pointer (some ⟨g, 0, none⟩), .agg #[.slice A' N c']] (by first | (simp [Act.eval]; done) | simp [Act.eval, Act.put]) _ (flag2P _ (D3.out.now Td.out) hn HX.out HRR.out (Td.out.rdss (i := 0) rfl)) ?_
       rintro e w4 ⟨k1, rfl, _, hs_, tu_⟩
       refine ⟨_, rfl, ?_⟩
       obtain ⟨wb4, d_, st_⟩ := D3.out.num Td.out hs_ tu_
       have D4 := Lib.hid d_
       have T4 := Lib.hid st_
       have B4 := Lib.hid (Turns.below Bd.out tu_ Bd.out.size hG)
       have hbx4 := (T4.out.blk (i := 1) rfl).cell (i := 0) rfl
       clear d_ st_ hs_ tu_)
    | (refine step_call rfl 88 #[.tmp 25, .tmp 26] #[77, 26] (by rfl) Try.func88 (by rfl) (by rfl) #[.pointer (some ⟨g, 0, none⟩), .agg #[.slice A' N c']] (by first | (simp [Act.eval]; done) | simp [Act.eval, Act.put]) _ (flag2P _ (D4.out.now T4.out) hn HX.out HRR.out (T4.out.rdss (i := 0) rfl)) ?_
       rintro e w5 ⟨k2, rfl, _, hs_, tu_⟩
       refine ⟨_, rfl, ?_⟩
       obtain ⟨wb5, d_, st_⟩ := D4.out.num T4.out hs_ tu_
       have D5 := Lib.hid d_
       have T5 := Lib.hid st_
       have B5 := Lib.hid (Turns.below B4.out tu_ B4.out.size hG)
       have SE := Lib.hid (S0.out.go B5.out)
       have hbx5 := (T5.out.blk (i := 1) rfl).cell (i := 0) rfl
       have z0 := (SE.out.blk (i := 0) rfl).cell (i := 0) rfl
       have f0 := (SE.out.blk (i := 0) rfl).free 0
       clear d_ st_ hs_ tu_)))
  all_goals
    have hlt := HG.out
    go_wp2
    have st4 := SE.out.blkSet (i := 0) rfl 0 (.slice A' N c')
    have y0 := (st4.blk (i := 0) rfl).cell (i := 0) rfl
    exact bodyPost_ret (v := .tuple #[.agg #[.slice A' N c'], .int .i64 k1, .int .i64 k2]) (by simp [results, Try.results25, go_sem, y0]) rfl ⟨A', N, c', xss, _, _, rfl, HX.out, hN, HRR.out, hc, hc63, rds_setP (T5.out.sep) (i := 0) rfl (Nat.lt_trans hlt (D5.out.lt)), st4.below⟩
end
end Go.Proofs.Ytckmmgepoccopaa
