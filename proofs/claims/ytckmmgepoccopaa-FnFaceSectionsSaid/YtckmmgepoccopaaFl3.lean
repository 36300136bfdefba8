/- The draws of FnPaths, FnSections and FnFaceSections. -/
import Derived.Test.YtckmmgepoccopaaFl2
namespace Go.Proofs.Ytckmmgepoccopaa
open Go.RowKit

def RetX2 (w : World) (e : Ending) (w' : World) : Prop :=
  ∃ (A' : Option Addr) (N c' : Nat) (xss : List (List Int)) (k1 k2 : Int), e = .returned (.tuple #[.agg #[.slice A' N c'], .int .i64 k1, .int .i64 k2]) ∧ xss.length = N ∧ N ≤ 6 ∧ (∀ xs ∈ xss, (xs.length : Int) ≤ 1048576) ∧ N ≤ c' ∧ c' ≤ 9223372036854775807 ∧ RdSS w' A' xss ∧ Below w.heap.size w w'
def RetX3 (w : World) (e : Ending) (w' : World) : Prop :=
  ∃ (A' : Option Addr) (N c' : Nat) (xss : List (List Int)) (k1 k2 k3 : Int), e = .returned (.tuple #[.agg #[.slice A' N c'], .int .i64 k1, .int .i64 k2, .int .i64 k3]) ∧ xss.length = N ∧ N ≤ 6 ∧ (∀ xs ∈ xss, (xs.length : Int) ≤ 1048576) ∧ N ≤ c' ∧ c' ≤ 9223372036854775807 ∧ RdSS w' A' xss ∧ Below w.heap.size w w'
theorem rds_setP {w : World} {lo H k i : Nat} {A : Option Addr} {xss : List (List Int)} {v : Value} {Ps : List Pc} (h : Sep w lo Ps) (hi : Ps[i]? = some (.rds A xss)) (hH : H < lo) : RdSS (w.setCell ⟨H, k, none⟩ v) A xss := by
  obtain ⟨F, h1, h2⟩ := h.piece hi
  have h3 := (Pc.rds A xss).kept h1 (w' := w.setCell ⟨H, k, none⟩ v) fun b hb => by
    have := (h2 b hb).1
    have hne : H ≠ b := by omega
    simp [World.setCell, Array.getElem?_modify, hne]
  exact h3.1
section
variable {A : Option Addr} {g n c : Nat} {bs : List Value}
set_option maxRecDepth 100000 in
set_option maxHeartbeats 3200000 in
theorem drawFW (w : World) (hl : bs.length = n) (hr : Rd w A bs) (hu : ∀ v ∈ bs, ∃ x : Nat, v = .int .u8 x ∧ x < 256) (hn : n ≤ 1048576) :
    Calls Try.prog 25 #[.slice A n c] w (RetX2 w) := by
  have HR := Lib.hid (hr.keep ((Below.refl _ _).alloc (Nat.le_refl _) (.cells #[.slice none 0 0] 26)))
  have HL := Lib.hid hl
  have HU := Lib.hid hu
  have S0 := Lib.hid ((St.start w).addBlk #[.slice none 0 0] 26)
  clear hl hr hu
  go_enter Try.func25, Try.ntmps25
  go_wp2_with fail
  refine (from_any _ HL.out HR.out HU.out hn).mono ?_
  rintro e w1 ⟨g, at', h', rfl, hg, hg1, src, bel⟩
  have HG := Lib.hid (show w.heap.size < g by simp at hg; omega)
  have hG : (w.alloc (.cells #[.slice none 0 0] 26)).heap.size ≤ g := hg
  have B1 := Lib.hid bel
  have D1 := Lib.hid (Dr.start (show SrcE w1 g A n c bs from ⟨at', h', src⟩))
  have T1 := Lib.hid (St.start w1)
  clear src bel hg hg1
  go_wp2_with fail
  refine (nextE (N := 20) _ (D1.out.now T1.out) hn (by omega)).mono ?_
  rintro e w2 ⟨r, rfl, ⟨h0r, h1r⟩, hs_, tu_⟩
  obtain ⟨wb2, d_, st_⟩ := D1.out.num T1.out hs_ tu_
  have D2 := Lib.hid d_
  have T2 := Lib.hid st_
  have B2 := Lib.hid (Turns.below B1.out tu_ B1.out.size hG)
  clear d_ st_ hs_ tu_
  by_cases e0 : r = 0
  · subst e0
    have T3 := Lib.hid (T2.out.addLit3 (.int .i64 64) (.int .i64 65) (.int .i64 70) 2)
    have B3 := Lib.hid (B2.out.alloc B2.out.size (.cells #[.int .i64 64, .int .i64 65, .int .i64 70] 2))
    have Q := Lib.hid (D2.out.out T2.out)
    go_wp2_with fail
    refine (pickE (m := 3) (c2 := 3) (xs := [64, 65, 70]) _ (D2.out.now T3.out) hn rfl (by decide) (by decide) (own_rd (T3.out.own (i := 0) rfl)) Q.out).mono ?_
    rintro e w4 ⟨p, rfl, hp, hs_, tu_⟩
    obtain ⟨wb4, d_, st_⟩ := D2.out.num T3.out hs_ tu_
    have D4 := Lib.hid d_
    have T4 := Lib.hid st_
    have B4 := Lib.hid (Turns.below B3.out tu_ B3.out.size hG)
    clear d_ st_ hs_ tu_
    obtain ⟨p, rfl⟩ : ∃ p0 : Nat, p = (p0 : Int) := ⟨p.toNat, by simp at hp; omega⟩
    have hp1 : 1 ≤ p ∧ 2 * p ≤ 400 := by simp at hp; omega
    clear hp
    go_wp2_with fail
    refine (polyg_any (n := 2 * p) _ hp1.1 rfl hp1.2).mono ?_
    rintro e w5 ⟨A', c', vals, rfl, st_⟩
    have T5 := Lib.hid (T4.out.join st_)
    have B5 := Lib.hid (B4.out.trans (st_.below.mono B4.out.size))
    have hpl : (pgL (2 * p)).length = 2 := rfl
    have HPL := Lib.hid (show ∀ xs ∈ pgL (2 * p), (xs.length : Int) ≤ 1048576 from fun xs hx => by
      have := ((pg_ok hp1.1 hp1.2).inv xs hx).1
      omega)
    clear st_
    have T6 := Lib.hid (T5.out.addLit3 (.int .i64 63) (.int .i64 64) (.int .i64 65) 2)
    have B6 := Lib.hid (B5.out.alloc B5.out.size (.cells #[.int .i64 63, .int .i64 64, .int .i64 65] 2))
    have Q6 := Lib.hid (D4.out.out T5.out)
    go_wp2_with fail
    refine (pickE (m := 3) (c2 := 3) (xs := [63, 64, 65]) _ (D4.out.now T6.out) hn rfl (by decide) (by decide) (own_rd (T6.out.own (i := 2) rfl)) Q6.out).mono ?_
    rintro e w7 ⟨q, rfl, _, hs_, tu_⟩
    obtain ⟨wb7, d_, st_⟩ := D4.out.num T6.out hs_ tu_
    have D7 := Lib.hid d_
    have T7 := Lib.hid st_
    have B7 := Lib.hid (Turns.below B6.out tu_ B6.out.size hG)
    clear d_ st_ hs_ tu_
    have hcp := ownSS_cap (T7.out.sep.ownSS (i := 1) rfl)
    have T8 := Lib.hid (T7.out.less (i := 1) rfl (fun F h => rows_rds h))
    have SE := Lib.hid (S0.out.go B7.out)
    have hlt := HG.out
    have z0 := (SE.out.blk (i := 0) rfl).cell (i := 0) rfl
    have f0 := (SE.out.blk (i := 0) rfl).free 0
    go_wp2
    have st4 := SE.out.blkSet (i := 0) rfl 0 (.slice A' 2 c')
    have y0 := (st4.blk (i := 0) rfl).cell (i := 0) rfl
    exact bodyPost_ret (v := .tuple #[.agg #[.slice A' 2 c'], .int .i64 0, .int .i64 q]) (by simp [results, Try.results25, go_sem, y0]) rfl ⟨A', 2, c', pgL (2 * p), _, _, rfl, hpl, by decide, HPL.out, hcp.1, hcp.2, rds_setP (T8.out.sep) (i := 1) rfl (Nat.lt_trans hlt (D7.out.lt)), st4.below⟩
  have n0 : (r == 0) = false := by rw [beq_eq_false_iff_ne]; exact e0
  go_wp2_with fail
  refine (spoil2P (most := 60) _ (D2.out.now T2.out) hn (by omega) (by omega)).mono ?_
  rintro e w3 ⟨wb_, A', N, c', xss, rfl, hl, hN, hR, hc, hc63, d_, st_⟩
  obtain ⟨wb3, d2_, st2_⟩ := D2.out.join T2.out d_ st_
  have B3 := Lib.hid (Turns.below B2.out (d_.fin st_).1 B2.out.size hG)
  have D3 := Lib.hid d2_
  have T3 := Lib.hid (show St wb3 (w3.alloc (.cells #[.slice A' N c'] 26)) [.rds A' xss, .blk w3.heap.size #[.slice A' N c'] 26] from st2_.addBlk #[.slice A' N c'] 26)
  have B3 := Lib.hid (B3.out.alloc B3.out.size (.cells #[.slice A' N c'] 26))
  have HX := Lib.hid hl
  have HRR := Lib.hid (show ∀ xs ∈ xss, (xs.length : Int) ≤ 1048576 from fun xs hx => by have := hR xs hx; omega)
  clear d_ st_ d2_ st2_ hl hR
  have hbx := (T3.out.blk (i := 1) rfl).cell (i := 0) rfl
  have Td := Lib.hid (T3.out.go (below_drewN (Below.refl _ _) 1))
  have Bd := Lib.hid (below_drewN B3.out 1)
  have SD := Lib.hid (S0.out.go Bd.out)
  go_wp2
  go_region_law ((first
    | (refine step_call rfl 88 #[.tmp 22, .tmp 23] #[77, 26] (by rfl) Try.func88 (by rfl) (by rfl) #[.pointer (some ⟨g, 0, none⟩), .agg #[.slice A' N c']] (by first | (simp [Act.eval]; done) | simp [Act.eval, Act.put]) _ (flag2P _ (D3.out.now Td.out) hn HX.out HRR.out (Td.out.rdss (i := 0) rfl)) ?_
       rintro e w4 ⟨k1, rfl, _, hs_, tu_⟩
       refine ⟨_, rfl, ?_⟩
       obtain ⟨wb4, d_, st_⟩ := D3.out.num Td.out hs_ tu_
       have D4 := Lib.hid d_
       have T4 := Lib.hid st_
       have B4 := Lib.hid (Turns.below Bd.out tu_ Bd.out.size hG)
       have hbx4 := (T4.out.blk (i := 1) rfl).cell (i := 0) rfl
       clear d_ st_ hs_ tu_)
    | (refine step_call rfl 88 #[.tmp 25, .tmp 26] #[77, 26] (by rfl) Try.func88 (by rfl) (by rfl) #[.pointer (some ⟨g, 0, none⟩), .agg #[.slice A' N c']] (by first | (simp [Act.eval]; done) | simp [Act.eval, Act.put]) _ (flag2P _ (D4.out.now T4.out) hn HX.out HRR.out (T4.out.rdss (i := 0) rfl)) ?_
       rintro e w5 ⟨k2, rfl, _, hs_, tu_⟩
       refine ⟨_, rfl, ?_⟩
       obtain ⟨wb5, d_, st_⟩ := D4.out.num T4.out hs_ tu_
       have D5 := Lib.hid d_
       have T5 := Lib.hid st_
       have B5 := Lib.hid (Turns.below B4.out tu_ B4.out.size hG)
       have SE := Lib.hid (S0.out.go B5.out)
       have hbx5 := (T5.out.blk (i := 1) rfl).cell (i := 0) rfl
       have z0 := (SE.out.blk (i := 0) rfl).cell (i := 0) rfl
       have f0 := (SE.out.blk (i := 0) rfl).free 0
       clear d_ st_ hs_ tu_)))
  all_goals
    have hlt := HG.out
    go_wp2
    have st4 := SE.out.blkSet (i := 0) rfl 0 (.slice A' N c')
    have y0 := (st4.blk (i := 0) rfl).cell (i := 0) rfl
    exact bodyPost_ret (v := .tuple #[.agg #[.slice A' N c'], .int .i64 k1, .int .i64 k2]) (by simp [results, Try.results25, go_sem, y0]) rfl ⟨A', N, c', xss, _, _, rfl, HX.out, hN, HRR.out, hc, hc63, rds_setP (T5.out.sep) (i := 0) rfl (Nat.lt_trans hlt (D5.out.lt)), st4.below⟩
theorem next6E (N : Nat) (w : World) (hs : SrcE w g A n c bs) (hn : n ≤ 1048576) :
    Calls Try.prog 86 #[.pointer (some ⟨g, 0, none⟩), .int .i64 (N : Int)] w (RetD w g A n c bs fun r => ∃ z : Nat, r = (z : Int) ∧ z ≤ N) := by
  by_cases hN : 1 ≤ N
  · exact (nextE w hs hn (by omega)).mono fun e w' ⟨r, h1, h2, h3, h4⟩ => ⟨r, h1, ⟨r.toNat, by omega, by omega⟩, h3, h4⟩
  · have HS := Lib.hid hs
    obtain rfl : N = 0 := by omega
    clear hs hN
    go_enter Try.func86, Try.ntmps86
    go_wp2
    go_ret
    exact ⟨0, rfl, ⟨0, rfl, Nat.le_refl _⟩, HS.out, Turns.refl _ _ _⟩
def RetD2 (w : World) (g : Nat) (A : Option Addr) (n c : Nat) (bs : List Value) (e : Ending) (w' : World) : Prop :=
  ∃ r s : Int, e = .returned (.tuple #[.int .i64 r, .int .i64 s]) ∧ SrcE w' g A n c bs ∧ Turns g (g + 1) w w'
set_option maxHeartbeats 1600000 in
theorem ranksP {A' : Option Addr} {N c' : Nat} (w : World) (hs : SrcE w g A n c bs) (hn : n ≤ 1048576) (hN : N ≤ 6) :
    Calls Try.prog 98 #[.pointer (some ⟨g, 0, none⟩), .agg #[.slice A' N c']] w (RetD2 w g A n c bs) := by
  have D0 := Lib.hid (Dr.start hs)
  have T0 := Lib.hid ((St.start w).addBlk #[.slice A' N c'] 26)
  have hbx := (T0.out.blk (i := 0) rfl).cell (i := 0) rfl
  clear hs
  go_enter Try.func98, Try.ntmps98
  go_wp2_with fail
  refine (next6E N _ (D0.out.now T0.out) hn).mono ?_
  rintro e w1 ⟨r, rfl, ⟨a, rfl, ha⟩, hs_, tu_⟩
  obtain ⟨wb1, d_, st_⟩ := D0.out.num T0.out hs_ tu_
  have D1 := Lib.hid d_
  have T1 := Lib.hid st_
  clear d_ st_ hs_ tu_
  have m1 : (N : Int) - (a : Int) = ((N - a : Nat) : Int) := by omega
  have k1 : IntKind.i64.wrap ((N : Int) - (a : Int)) = ((N - a : Nat) : Int) := (IntWalk.i64_in _ (by omega)).trans m1
  clear hbx
  go_wp2_with fail
  refine (next6E (N - a) _ (D1.out.now T1.out) hn).mono ?_
  rintro e w2 ⟨r, rfl, ⟨b, rfl, hb⟩, hs_, tu_⟩
  obtain ⟨wb2, d_, st_⟩ := D1.out.num T1.out hs_ tu_
  have D2 := Lib.hid d_
  have T2 := Lib.hid st_
  clear d_ st_ hs_ tu_
  have k2 : IntKind.i64.wrap ((a : Int) + (b : Int)) = (a : Int) + (b : Int) := IntWalk.i64_in _ (by omega)
  go_wp2_with fail
  refine (nextE (N := 20) _ (D2.out.now T2.out) hn (by omega)).mono ?_
  rintro e w3 ⟨r, rfl, _, hs_, tu_⟩
  obtain ⟨wb3, d_, st_⟩ := D2.out.num T2.out hs_ tu_
  have D3 := Lib.hid d_
  have T3 := Lib.hid st_
  clear d_ st_ hs_ tu_
  by_cases e0 : r = 0
  · subst e0
    have T4 := Lib.hid (T3.out.addLit4 (.int .i64 (-1)) (.int .i64 ((a : Int) + (b : Int))) (.int .i64 (a : Int)) (.int .i64 5) 2)
    have Q := Lib.hid (D3.out.out T3.out)
    go_wp2_with fail
    refine (pickE (m := 4) (c2 := 4) (xs := [-1, (a : Int) + (b : Int), (a : Int), 5]) _ (D3.out.now T4.out) hn rfl (by decide) (by decide) (own_rd (T4.out.own (i := 1) rfl)) Q.out).mono ?_
    rintro e w5 ⟨p, rfl, _, hs_, tu_⟩
    obtain ⟨wb5, d_, st_⟩ := D3.out.num T4.out hs_ tu_
    have D5 := Lib.hid d_
    have T5 := Lib.hid st_
    clear d_ st_ hs_ tu_
    have T6 := Lib.hid (T5.out.addLit3 (.int .i64 (N : Int)) (.int .i64 (a : Int)) (.int .i64 0) 2)
    have Q6 := Lib.hid (D5.out.out T5.out)
    go_wp2_with fail
    refine (pickE (m := 3) (c2 := 3) (xs := [(N : Int), (a : Int), 0]) _ (D5.out.now T6.out) hn rfl (by decide) (by decide) (own_rd (T6.out.own (i := 2) rfl)) Q6.out).mono ?_
    rintro e w7 ⟨q, rfl, _, hs_, tu_⟩
    obtain ⟨wb7, d_, st_⟩ := D5.out.num T6.out hs_ tu_
    have D7 := Lib.hid d_
    have T7 := Lib.hid st_
    clear d_ st_ hs_ tu_
    have R := Lib.hid (And.intro (D7.out.now T7.out) (D7.out.fin T7.out).1)
    go_wp2
    exact bodyPost_ret (v := .tuple #[.int .i64 p, .int .i64 q]) (by simp [results, Try.results98, go_sem]) rfl ⟨p, q, rfl, R.out.1, R.out.2⟩
  · have n0 : (r == 0) = false := by rw [beq_eq_false_iff_ne]; exact e0
    have R := Lib.hid (And.intro (D3.out.now T3.out) (D3.out.fin T3.out).1)
    go_wp2
    exact bodyPost_ret (v := .tuple #[.int .i64 (a : Int), .int .i64 ((a : Int) + (b : Int))]) (by simp [results, Try.results98, go_sem]) rfl ⟨_, _, rfl, R.out.1, R.out.2⟩
set_option maxRecDepth 100000 in
set_option maxHeartbeats 3200000 in
theorem drawSA (w : World) (hl : bs.length = n) (hr : Rd w A bs) (hu : ∀ v ∈ bs, ∃ x : Nat, v = .int .u8 x ∧ x < 256) (hn : n ≤ 1048576) :
    Calls Try.prog 35 #[.slice A n c] w (RetX3 w) := by
  have HR := Lib.hid (hr.keep ((Below.refl _ _).alloc (Nat.le_refl _) (.cells #[.slice none 0 0] 26)))
  have HL := Lib.hid hl
  have HU := Lib.hid hu
  have S0 := Lib.hid ((St.start w).addBlk #[.slice none 0 0] 26)
  clear hl hr hu
  go_enter Try.func35, Try.ntmps35
  go_wp2_with fail
  refine (from_any _ HL.out HR.out HU.out hn).mono ?_
  rintro e w1 ⟨g, at', h', rfl, hg, hg1, src, bel⟩
  have HG := Lib.hid (show w.heap.size < g by simp at hg; omega)
  have hG : (w.alloc (.cells #[.slice none 0 0] 26)).heap.size ≤ g := hg
  have B1 := Lib.hid bel
  have D1 := Lib.hid (Dr.start (show SrcE w1 g A n c bs from ⟨at', h', src⟩))
  have T1 := Lib.hid (St.start w1)
  clear src bel hg hg1
  go_wp2_with fail
  refine (spoil2P (most := 60) _ (D1.out.now T1.out) hn (by omega) (by omega)).mono ?_
  rintro e w3 ⟨wb_, A', N, c', xss, rfl, hl, hN, hR, hc, hc63, d_, st_⟩
  obtain ⟨wb3, d2_, st2_⟩ := D1.out.join T1.out d_ st_
  have B3 := Lib.hid (Turns.below B1.out (d_.fin st_).1 B1.out.size hG)
  have D3 := Lib.hid d2_
  have T3 := Lib.hid (show St wb3 (w3.alloc (.cells #[.slice A' N c'] 26)) [.rds A' xss, .blk w3.heap.size #[.slice A' N c'] 26] from st2_.addBlk #[.slice A' N c'] 26)
  have B3 := Lib.hid (B3.out.alloc B3.out.size (.cells #[.slice A' N c'] 26))
  have HX := Lib.hid hl
  have HRR := Lib.hid (show ∀ xs ∈ xss, (xs.length : Int) ≤ 1048576 from fun xs hx => by have := hR xs hx; omega)
  clear d_ st_ d2_ st2_ hl hR
  have hbx := (T3.out.blk (i := 1) rfl).cell (i := 0) rfl
  go_wp2_with fail
  refine (ranksP _ (D3.out.now T3.out) hn hN).mono ?_
  rintro e w4 ⟨i, k, rfl, hs_, tu_⟩
  obtain ⟨wb4, d_, st_⟩ := D3.out.num T3.out hs_ tu_
  have D4 := Lib.hid d_
  have T4 := Lib.hid st_
  have B4 := Lib.hid (Turns.below B3.out tu_ B3.out.size hG)
  clear d_ st_ hs_ tu_ hbx
  have hbx := (T4.out.blk (i := 1) rfl).cell (i := 0) rfl
  have Td := Lib.hid (T4.out.go (below_drewN (Below.refl _ _) 1))
  have Bd := Lib.hid (below_drewN B4.out 1)
  go_wp2
  go_region_law ((first
    | (refine step_call rfl 88 #[.tmp 21, .tmp 22] #[77, 26] (by rfl) Try.func88 (by rfl) (by rfl) #[.pointer (some ⟨g, 0, none⟩), .agg #[.slice A' N c']] (by first | (simp [Act.eval]; done) | simp [Act.eval, Act.put]) _ (flag2P _ (D4.out.now Td.out) hn HX.out HRR.out (Td.out.rdss (i := 0) rfl)) ?_
       rintro e w5 ⟨k1, rfl, _, hs_, tu_⟩
       refine ⟨_, rfl, ?_⟩
       obtain ⟨wb5, d_, st_⟩ := D4.out.num Td.out hs_ tu_
       have D5 := Lib.hid d_
       have T5 := Lib.hid st_
       have B5 := Lib.hid (Turns.below Bd.out tu_ Bd.out.size hG)
       have SE := Lib.hid (S0.out.go B5.out)
       have hbx5 := (T5.out.blk (i := 1) rfl).cell (i := 0) rfl
       have z0 := (SE.out.blk (i := 0) rfl).cell (i := 0) rfl
       have f0 := (SE.out.blk (i := 0) rfl).free 0
       clear d_ st_ hs_ tu_)))
  all_goals
    have hlt := HG.out
    go_wp2
    have st4 := SE.out.blkSet (i := 0) rfl 0 (.slice A' N c')
    have y0 := (st4.blk (i := 0) rfl).cell (i := 0) rfl
    exact bodyPost_ret (v := .tuple #[.agg #[.slice A' N c'], .int .i64 k1, .int .i64 i, .int .i64 k]) (by simp [results, Try.results35, go_sem, y0]) rfl ⟨A', N, c', xss, _, _, _, rfl, HX.out, hN, HRR.out, hc, hc63, rds_setP (T5.out.sep) (i := 0) rfl (Nat.lt_trans hlt D5.out.lt), st4.below⟩
def RetX2P (w : World) (e : Ending) (w' : World) : Prop :=
  ∃ (A' : Option Addr) (N c' : Nat) (xss : List (List Int)) (k1 k2 : Int), e = .returned (.tuple #[.agg #[.slice A' N c'], .int .i64 k1, .int .i64 k2]) ∧ xss.length = N ∧ N ≤ 6 ∧ (∀ xs ∈ xss, (xs.length : Int) ≤ 1048576) ∧ N ≤ c' ∧ c' ≤ 9223372036854775807 ∧ (∃ lo, w.heap.size < lo ∧ Sep w' lo [.rds A' xss]) ∧ Below w.heap.size w w' 
set_option maxRecDepth 100000 in
set_option maxHeartbeats 3200000 in
theorem drawNR (w : World) (hl : bs.length = n) (hr : Rd w A bs) (hu : ∀ v ∈ bs, ∃ x : Nat, v = .int .u8 x ∧ x < 256) (hn : n ≤ 1048576) :
    Calls Try.prog 107 #[.slice A n c] w (RetX2P w) := by
  have HR := Lib.hid (hr.keep ((Below.refl _ _).alloc (Nat.le_refl _) (.cells #[.slice none 0 0] 26)))
  have HL := Lib.hid hl
  have HU := Lib.hid hu
  have S0 := Lib.hid ((St.start w).addBlk #[.slice none 0 0] 26)
  clear hl hr hu
  go_enter Try.func107, Try.ntmps107
  go_wp2_with fail
  refine (from_any _ HL.out HR.out HU.out hn).mono ?_
  rintro e w1 ⟨g, at', h', rfl, hg, hg1, src, bel⟩
  have HG := Lib.hid (show w.heap.size < g by simp at hg; omega)
  have hG : (w.alloc (.cells #[.slice none 0 0] 26)).heap.size ≤ g := hg
  have B1 := Lib.hid bel
  have D1 := Lib.hid (Dr.start (show SrcE w1 g A n c bs from ⟨at', h', src⟩))
  have T1 := Lib.hid (St.start w1)
  clear src bel hg hg1
  go_wp2_with fail
  refine (spoil2P (most := 60) _ (D1.out.now T1.out) hn (by omega) (by omega)).mono ?_
  rintro e w3 ⟨wb_, A', N, c', xss, rfl, hl, hN, hR, hc, hc63, d_, st_⟩
  obtain ⟨wb3, d2_, st2_⟩ := D1.out.join T1.out d_ st_
  have B3 := Lib.hid (Turns.below B1.out (d_.fin st_).1 B1.out.size hG)
  have D3 := Lib.hid d2_
  have T3 := Lib.hid (show St wb3 (w3.alloc (.cells #[.slice A' N c'] 26)) [.rds A' xss, .blk w3.heap.size #[.slice A' N c'] 26] from st2_.addBlk #[.slice A' N c'] 26)
  have B3 := Lib.hid (B3.out.alloc B3.out.size (.cells #[.slice A' N c'] 26))
  have HX := Lib.hid hl
  have HRR := Lib.hid (show ∀ xs ∈ xss, (xs.length : Int) ≤ 1048576 from fun xs hx => by have := hR xs hx; omega)
  clear d_ st_ d2_ st2_ hl hR
  have hbx := (T3.out.blk (i := 1) rfl).cell (i := 0) rfl
  go_wp2_with fail
  refine (next6E N _ (D3.out.now T3.out) hn).mono ?_
  rintro e w4 ⟨r, rfl, ⟨a, rfl, ha⟩, hs_, tu_⟩
  obtain ⟨wb4, d_, st_⟩ := D3.out.num T3.out hs_ tu_
  have D4 := Lib.hid d_
  have T4 := Lib.hid st_
  have B4 := Lib.hid (Turns.below B3.out tu_ B3.out.size hG)
  clear d_ st_ hs_ tu_
  clear hbx
  have hbx := (T4.out.blk (i := 1) rfl).cell (i := 0) rfl
  go_wp2_with fail
  refine (nextE (N := 20) _ (D4.out.now T4.out) hn (by omega)).mono ?_
  rintro e w5 ⟨r, rfl, _, hs_, tu_⟩
  obtain ⟨wb5, d_, st_⟩ := D4.out.num T4.out hs_ tu_
  have D5 := Lib.hid d_
  have T5 := Lib.hid st_
  have B5 := Lib.hid (Turns.below B4.out tu_ B4.out.size hG)
  clear d_ st_ hs_ tu_
  clear hbx
  by_cases e0 : r = 0
  · subst e0
    have hbx := (T5.out.blk (i := 1) rfl).cell (i := 0) rfl
    have T6 := Lib.hid (T5.out.addLit3 (.int .i64 (-1)) (.int .i64 5) (.int .i64 (N : Int)) 2)
    have B6 := Lib.hid (B5.out.alloc B5.out.size (.cells #[.int .i64 (-1), .int .i64 5, .int .i64 (N : Int)] 2))
    have Q6 := Lib.hid (D5.out.out T5.out)
    go_wp2_with fail
    refine (pickE (m := 3) (c2 := 3) (xs := [-1, 5, (N : Int)]) _ (D5.out.now T6.out) hn rfl (by decide) (by decide) (own_rd (T6.out.own (i := 2) rfl)) Q6.out).mono ?_
    rintro e w6 ⟨p, rfl, _, hs_, tu_⟩
    obtain ⟨wb6, d_, st_⟩ := D5.out.num T6.out hs_ tu_
    have D6 := Lib.hid d_
    have T6 := Lib.hid st_
    have B6 := Lib.hid (Turns.below B6.out tu_ B6.out.size hG)
    clear d_ st_ hs_ tu_
    clear hbx
    have hbx := (T6.out.blk (i := 1) rfl).cell (i := 0) rfl
    have T0l := Lib.hid (T6.out.addLit4 (.int .i64 0) (.int .i64 1) (.int .i64 3) (.int .i64 5) 2)
    have Tl := Lib.hid (T0l.out.go (below_drewN (Below.refl _ _) 1))
    have Bl := Lib.hid (below_drewN (B6.out.alloc B6.out.size (.cells #[.int .i64 0, .int .i64 1, .int .i64 3, .int .i64 5] 2)) 1)
    have Ql := Lib.hid (D6.out.out T6.out)
    have hbl := (T0l.out.blk (i := 1) rfl).cell (i := 0) rfl
    go_wp2
    go_region_law ((first
      | (refine step_call rfl 76 #[.tmp 29, .tmp 30] #[77, 28] (by rfl) Try.func76 (by rfl) (by rfl) #[.pointer (some ⟨g, 0, none⟩), .slice (some ⟨w6.heap.size, 0, none⟩) 4 4] (by first | (simp [Act.eval]; done) | simp [Act.eval, Act.put]) _ (pickE (m := 4) (c2 := 4) (xs := [0, 1, 3, 5]) _ (D6.out.now Tl.out) hn rfl (by decide) (by decide) (own_rd (Tl.out.own (i := 3) rfl)) Ql.out) ?_
         rintro e w7 ⟨q, rfl, hq, hs_, tu_⟩
         refine ⟨_, rfl, ?_⟩
         obtain ⟨wb7, d_, st_⟩ := D6.out.num Tl.out hs_ tu_
         have D7 := Lib.hid d_
         have T7 := Lib.hid st_
         have B7 := Lib.hid (Turns.below Bl.out tu_ Bl.out.size hG)
         have hbx7 := (T7.out.blk (i := 1) rfl).cell (i := 0) rfl
         have hq0 : -1 ≤ q ∧ q ≤ 1048576 := by simp at hq; omega
         clear d_ st_ hs_ tu_ hq)
      | (refine step_call rfl 134 #[.tmp 28, .tmp 31] #[77, 2] (by rfl) Try.func134 (by rfl) (by rfl) #[.pointer (some ⟨g, 0, none⟩), .int .i64 q] (by first | (simp [Act.eval]; done) | simp [Act.eval, Act.put]) _ (countP _ (D7.out.now T7.out) hn hq0.1 hq0.2) ?_
         rintro e w8 ⟨k1, rfl, _, hs_, tu_⟩
         refine ⟨_, rfl, ?_⟩
         obtain ⟨wb8, d_, st_⟩ := D7.out.num T7.out hs_ tu_
         have D8 := Lib.hid d_
         have T8 := Lib.hid st_
         have B8 := Lib.hid (Turns.below B7.out tu_ B7.out.size hG)
         have SE := Lib.hid (S0.out.go B8.out)
         have hbx8 := (T8.out.blk (i := 1) rfl).cell (i := 0) rfl
         have z0 := (SE.out.blk (i := 0) rfl).cell (i := 0) rfl
         have f0 := (SE.out.blk (i := 0) rfl).free 0
         clear d_ st_ hs_ tu_)))
    all_goals
      have hlt := HG.out
      go_wp2
      have st4 := SE.out.blkSet (i := 0) rfl 0 (.slice A' N c')
      have y0 := (st4.blk (i := 0) rfl).cell (i := 0) rfl
      exact bodyPost_ret (v := .tuple #[.agg #[.slice A' N c'], .int .i64 p, .int .i64 k1]) (by simp [results, Try.results107, go_sem, y0]) rfl ⟨A', N, c', xss, _, _, rfl, HX.out, hN, HRR.out, hc, hc63, ⟨_, Nat.lt_trans hlt D8.out.lt, (T8.out.sep.take 1).turns (turns_set _ _ _ _) (Nat.lt_trans hlt D8.out.lt)⟩, st4.below⟩
  have n0 : (r == 0) = false := by rw [beq_eq_false_iff_ne]; exact e0
  have hbx := (T5.out.blk (i := 1) rfl).cell (i := 0) rfl
  have T0l := Lib.hid (T5.out.addLit4 (.int .i64 0) (.int .i64 1) (.int .i64 3) (.int .i64 5) 2)
  have Tl := Lib.hid (T0l.out.go (below_drewN (Below.refl _ _) 1))
  have Bl := Lib.hid (below_drewN (B5.out.alloc B5.out.size (.cells #[.int .i64 0, .int .i64 1, .int .i64 3, .int .i64 5] 2)) 1)
  have Ql := Lib.hid (D5.out.out T5.out)
  have hbl := (T0l.out.blk (i := 1) rfl).cell (i := 0) rfl
  go_wp2
  go_region_law ((first
    | (refine step_call rfl 76 #[.tmp 29, .tmp 30] #[77, 28] (by rfl) Try.func76 (by rfl) (by rfl) #[.pointer (some ⟨g, 0, none⟩), .slice (some ⟨w5.heap.size, 0, none⟩) 4 4] (by first | (simp [Act.eval]; done) | simp [Act.eval, Act.put]) _ (pickE (m := 4) (c2 := 4) (xs := [0, 1, 3, 5]) _ (D5.out.now Tl.out) hn rfl (by decide) (by decide) (own_rd (Tl.out.own (i := 2) rfl)) Ql.out) ?_
       rintro e w7 ⟨q, rfl, hq, hs_, tu_⟩
       refine ⟨_, rfl, ?_⟩
       obtain ⟨wb7, d_, st_⟩ := D5.out.num Tl.out hs_ tu_
       have D7 := Lib.hid d_
       have T7 := Lib.hid st_
       have B7 := Lib.hid (Turns.below Bl.out tu_ Bl.out.size hG)
       have hbx7 := (T7.out.blk (i := 1) rfl).cell (i := 0) rfl
       have hq0 : -1 ≤ q ∧ q ≤ 1048576 := by simp at hq; omega
       clear d_ st_ hs_ tu_ hq)
    | (refine step_call rfl 134 #[.tmp 28, .tmp 31] #[77, 2] (by rfl) Try.func134 (by rfl) (by rfl) #[.pointer (some ⟨g, 0, none⟩), .int .i64 q] (by first | (simp [Act.eval]; done) | simp [Act.eval, Act.put]) _ (countP _ (D7.out.now T7.out) hn hq0.1 hq0.2) ?_
       rintro e w8 ⟨k1, rfl, _, hs_, tu_⟩
       refine ⟨_, rfl, ?_⟩
       obtain ⟨wb8, d_, st_⟩ := D7.out.num T7.out hs_ tu_
       have D8 := Lib.hid d_
       have T8 := Lib.hid st_
       have B8 := Lib.hid (Turns.below B7.out tu_ B7.out.size hG)
       have SE := Lib.hid (S0.out.go B8.out)
       have hbx8 := (T8.out.blk (i := 1) rfl).cell (i := 0) rfl
       have z0 := (SE.out.blk (i := 0) rfl).cell (i := 0) rfl
       have f0 := (SE.out.blk (i := 0) rfl).free 0
       clear d_ st_ hs_ tu_)))
  all_goals
    have hlt := HG.out
    go_wp2
    have st4 := SE.out.blkSet (i := 0) rfl 0 (.slice A' N c')
    have y0 := (st4.blk (i := 0) rfl).cell (i := 0) rfl
    exact bodyPost_ret (v := .tuple #[.agg #[.slice A' N c'], .int .i64 (a : Int), .int .i64 k1]) (by simp [results, Try.results107, go_sem, y0]) rfl ⟨A', N, c', xss, _, _, rfl, HX.out, hN, HRR.out, hc, hc63, ⟨_, Nat.lt_trans hlt D8.out.lt, (T8.out.sep.take 1).turns (turns_set _ _ _ _) (Nat.lt_trans hlt D8.out.lt)⟩, st4.below⟩
set_option maxHeartbeats 1600000 in
theorem drawFA (w : World) (hl : bs.length = n) (hr : Rd w A bs) (hu : ∀ v ∈ bs, ∃ x : Nat, v = .int .u8 x ∧ x < 256) (hn : n ≤ 1048576) :
    Calls Try.prog 44 #[.slice A n c] w (RetX2 w) := by
  have HR := Lib.hid (hr.keep ((Below.refl _ _).alloc (Nat.le_refl _) (.cells #[.slice none 0 0] 26)))
  have HL := Lib.hid hl
  have HU := Lib.hid hu
  have S0 := Lib.hid ((St.start w).addBlk #[.slice none 0 0] 26)
  clear hl hr hu
  go_enter Try.func44, Try.ntmps44
  go_wp2_with fail
  refine (drawNR _ HL.out HR.out HU.out hn).mono ?_
  rintro e w1 ⟨A', N, c', xss, k1, k2, rfl, hx, hN, hrr, hc, hc63, ⟨lo, hlo, sep⟩, bel⟩
  have S1 := Lib.hid ((S0.out.go bel).addBlk #[.slice A' N c'] 26)
  have HX := Lib.hid hx
  have HRR := Lib.hid hrr
  have z0 := (S1.out.blk (i := 0) rfl).cell (i := 0) rfl
  have z1 := (S1.out.blk (i := 1) rfl).cell (i := 0) rfl
  have f0 := (S1.out.blk (i := 0) rfl).free 0
  have HQ := Lib.hid (show w.heap.size < lo by simp at hlo; omega)
  have SP := Lib.hid (sep.go ((Below.refl _ _).alloc (Nat.le_refl _) (.cells #[.slice A' N c'] 26)))
  clear hx hrr hlo sep bel
  go_wp2
  have st4 := S1.out.blkSet (i := 0) rfl 0 (.slice A' N c')
  have y0 := (st4.blk (i := 0) rfl).cell (i := 0) rfl
  exact bodyPost_ret (v := .tuple #[.agg #[.slice A' N c'], .int .i64 k1, .int .i64 k2]) (by simp [results, Try.results44, go_sem, y0]) rfl ⟨A', N, c', xss, _, _, rfl, HX.out, hN, HRR.out, hc, hc63, rds_setP SP.out (i := 0) rfl HQ.out, st4.below⟩
end
end Go.Proofs.Ytckmmgepoccopaa
