/- spec.l05Rank3, DrawOppositeOf (written by gr3.py). -/
import Derived.Test.YtpmmpnhdimgkhaaL18
namespace Go.Proofs.Ytpmmpnhdimgkhaa
open Go.RowKit
theorem St.pick7 {w0 w : World} {a b c d e f h : Pc} (S : St w0 w [a, b, c, d, e, f, h]) : St w0 w [a, h, c] :=
  S.pick (fun i => if i = 1 then 6 else i) (fun i hi => by simp at hi ⊢; split <;> omega) (fun i hi => by
    match i, hi with
    | 0, _ => rfl
    | 1, _ => rfl
    | 2, _ => rfl) (fun i j hi hj h => by simp at hi hj ⊢; split <;> split <;> omega)
section
variable {A : Option Addr} {g n c : Nat} {bs : List Value}
set_option maxRecDepth 100000 in
set_option maxHeartbeats 6400000 in
theorem rank3P (w : World) (hs : SrcE w g A n c bs) (hn : n ≤ 1048576) :
    Calls Try.prog 91 #[.pointer (some ⟨g, 0, none⟩)] w (RetSp w g A n c bs) := by
  have S0 := Lib.hid ((St.start w).addBlk #[.slice none 0 0] 42)
  have D0 := Lib.hid (Dr.start hs)
  clear hs
  go_enter Try.func91, Try.ntmps91
  go_wp2_with fail
  refine (nextE (N := 4) _ (D0.out.now S0.out) hn (by omega)).mono ?_
  rintro e w1 ⟨r, rfl, ⟨h0r, h1r⟩, hs_, tu_⟩
  obtain ⟨wbw1, d_, st_⟩ := D0.out.num S0.out hs_ tu_
  obtain ⟨r, rfl⟩ := Int.eq_ofNat_of_zero_le h0r
  have D1 := Lib.hid d_
  have S1 := Lib.hid st_
  clear d_ st_ hs_ tu_ S0 D0
  by_cases e0 : r = 0
  · subst e0
    go_wp2_with fail
    refine (spoil2P (most := 32) _ (D1.out.now S1.out) hn (by omega) (by omega)).mono ?_
    rintro e w2 ⟨wb, A', N, c', xss, rfl, hl, hN, hR, hc, hc63, d, st⟩
    obtain ⟨wb2, d2, st2⟩ := D1.out.join S1.out d st
    have D2 := Lib.hid d2
    have S2 := Lib.hid st2
    have HX := Lib.hid hl
    have HRR := Lib.hid hR
    have z0 := (S2.out.blk (i := 0) rfl).cell (i := 0) rfl
    have f0 := (S2.out.blk (i := 0) rfl).free 0
    clear hl hR d st d2 st2
    go_wp2
    have st4 := S2.out.blkSet (i := 0) rfl 0 (.slice A' N c')
    have y0 := (st4.blk (i := 0) rfl).cell (i := 0) rfl
    refine bodyPost_ret (v := .agg #[.slice A' N c']) (by simp [results, Try.results91, go_sem, y0]) rfl ⟨_, A', N, c', xss, rfl, HX.out, hN, HRR.out, hc, hc63, D2.out, ?_⟩
    exact st4.pick (fun i => i + 1) (fun i hi => by simp at hi ⊢; omega) (fun i hi => by match i, hi with | 0, _ => rfl) (fun i j _ _ h => by omega)
  have n0 : ((r : Int) == 0) = false := by rw [beq_eq_false_iff_ne]; omega
  go_wp2_with fail
  refine (nextE (N := 10) _ (D1.out.now S1.out) hn (by omega)).mono ?_
  rintro e w2 ⟨r2, rfl, ⟨h0r2, h1r2⟩, hs_, tu_⟩
  obtain ⟨wbw2, d_, st_⟩ := D1.out.num S1.out hs_ tu_
  obtain ⟨r2, rfl⟩ := Int.eq_ofNat_of_zero_le h0r2
  have D2 := Lib.hid d_
  have S2 := Lib.hid st_
  clear d_ st_ hs_ tu_ S1 D1
  obtain ⟨p, hp⟩ : ∃ p, 1 + r2 = p := ⟨_, rfl⟩
  have hpI : 1 + (r2 : Int) = (p : Int) := by omega
  have hpq : p ≤ 10 ∧ 1 ≤ p := by omega
  clear hp
  go_wp2_with fail
  refine (mapP (E := p) _ (D2.out.now S2.out) hn hpq.2 (by omega)).mono ?_
  rintro e w3 ⟨wb3, AM, N, cM, m, vM, xss, rfl, hl, ok, hm, d3, st3⟩
  obtain ⟨wb4, d4, st4⟩ := D2.out.join S2.out d3 st3
  have D3 := Lib.hid d4
  have S3 := Lib.hid (show St wb4 (w3.alloc (.cells #[.slice AM N cM] 42)) [.blk w.heap.size #[.slice none 0 0] 42, .rows 2 33 AM N cM vM xss, .blk w3.heap.size #[.slice AM N cM] 42] from st4.addBlk #[.slice AM N cM] 42)
  have HL := Lib.hid hl
  have HO := Lib.hid ok
  clear hl ok d3 st3 d4 st4 D2 S2
  go_wp2_with fail
  refine (nextE (N := 3) _ (D3.out.now S3.out) hn (by omega)).mono ?_
  rintro e w4 ⟨r3, rfl, ⟨h0r3, h1r3⟩, hs_, tu_⟩
  obtain ⟨wbw4, d_, st_⟩ := D3.out.num S3.out hs_ tu_
  obtain ⟨r3, rfl⟩ := Int.eq_ofNat_of_zero_le h0r3
  have D4 := Lib.hid d_
  have S4 := Lib.hid st_
  clear d_ st_ hs_ tu_ S3 D3
  by_cases e3 : r3 = 0
  · subst e3
    go_wp2_with fail
    refine (nextE (N := 6) _ (D4.out.now S4.out) hn (by omega)).mono ?_
    rintro e w5 ⟨r4, rfl, ⟨h0r4, h1r4⟩, hs_, tu_⟩
    obtain ⟨wbw5, d_, st_⟩ := D4.out.num S4.out hs_ tu_
    obtain ⟨r4, rfl⟩ := Int.eq_ofNat_of_zero_le h0r4
    have D6 := Lib.hid d_
    have S6a := Lib.hid st_
    clear d_ st_ hs_ tu_ S4 D4
    obtain ⟨q, hq⟩ : ∃ q, 1 + r4 = q := ⟨_, rfl⟩
    have hqI : 1 + (r4 : Int) = (q : Int) := by omega
    have hqq : q ≤ 6 ∧ 1 ≤ q := by omega
    clear hq HL HO hm
    go_wp2_with fail
    refine (polyg_any (p := q) (n := 2 * q) _ hqq.2 rfl (by omega)).mono ?_
    rintro e w6 ⟨AP, cP, vP, rfl, stP⟩
    have S7 := Lib.hid (S6a.out.join stP)
    obtain ⟨gP, rfl⟩ := own_shape (S7.out.rows (i := 3) rfl) (show 0 < 2 by omega)
    have st8 := (S7.out.addLit2 (.int .i64 1) (.int .i64 0) 2).rowLit (j := 4) (xs := [1, 0]) rfl rfl 33
    have S8 := Lib.hid st8
    have RM := Lib.hid (ownSS_rd (S8.out.sep.ownSS (i := 3) rfl))
    have RE := Lib.hid (show RdSS _ _ edgeL from ownSS_rd (S8.out.sep.ownSS (i := 5) rfl))
    have bx := (S8.out.blk (i := 2) rfl).cell (i := 0) rfl
    have bf := (S8.out.blk (i := 2) rfl).free 0
    simp at RE RM
    clear stP st8
    go_wp2_with fail
    refine (beside_any (a := 2 * q) (b := 2) (N := 2) (M := 1) _ rfl rfl RM.out RE.out (pg_ok hqq.2 (by omega)) edge_ok (by omega) (by decide)).mono ?_
    rintro e w7 ⟨AB, cB, vB, rfl, stB⟩
    have S9 := Lib.hid (S8.out.join stB)
    clear stB bx bf
    have bx := (S9.out.blk (i := 2) rfl).cell (i := 0) rfl
    have bf := (S9.out.blk (i := 2) rfl).free 0
    have st10 := S9.out.blkSet (i := 2) rfl 0 (.slice AB 3 cB)
    have hok2 : OkI (2 * q * 2) (besL (2 * q) 2 (pgL (2 * q)) edgeL) := besL_ok (pg_ok hqq.2 (by omega)) edge_ok (by omega) (by simp [pgL, edgeL])
    have hbl : (besL (2 * q) 2 (pgL (2 * q)) edgeL).length = 3 := by rw [besL_len]; rfl
    obtain ⟨m2, hm2⟩ : ∃ m2, 2 * q * 2 = m2 := ⟨_, rfl⟩
    have hm40 : m2 ≤ 40 := by omega
    rw [hm2] at hok2
    have S11 := St.pick7 st10
    obtain ⟨x2, hx2⟩ : ∃ x2, besL (2 * q) 2 (pgL (2 * q)) edgeL = x2 := ⟨_, rfl⟩
    rw [hx2] at hok2 hbl S11
    have HO2 := Lib.hid hok2
    have HL2 := Lib.hid hbl
    have S12 := Lib.hid (show St wbw5 (w7.setCell ⟨w3.heap.size, 0, none⟩ (.slice AB 3 cB)) [.blk w.heap.size #[.slice none 0 0] 42, .rows 2 33 AB 3 cB vB x2, .blk w3.heap.size #[.slice AB 3 cB] 42] from S11)
    clear hok2 hbl S11 st10 S7 S8 S9 RM RE hm2 hx2
    have hm1 := HO2.out.n2
    have hm4 := HO2.out.n4
    obtain ⟨gM, rfl⟩ := own_shape (S12.out.rows (i := 1) rfl) (show 0 < 3 by omega)
    obtain ⟨x0, hx0⟩ : ∃ x0, x2[0]? = some x0 := ⟨_, List.getElem?_eq_getElem (by rw [HL2.out]; omega)⟩
    have hlen := (HO2.out.inv x0 (List.mem_of_getElem? hx0)).1
    have Sd := Lib.hid (S12.out.go (below_drewN (Below.refl _ _) 1))
    obtain ⟨A0, c0, hv0, ow0⟩ := Sd.out.rowAt (i := 1) rfl hx0
    rw [hlen] at hv0
    have HC0 := Lib.hid (own_cell (Sd.out.rows (i := 1) rfl) hv0)
    have x1 := (S12.out.blk (i := 2) rfl).cell (i := 0) rfl
    clear hx0 hv0 ow0
    go_wp2
    go_region_law ((first
      | (refine step_call rfl 125 #[.tmp 27] #[42] (by rfl) Try.func125 (by rfl) (by rfl) #[.agg #[.slice (some ⟨gM, 0, none⟩) 3 cB]] (by first | (simp [Act.eval]; done) | simp [Act.eval, Act.put]) _ (sFlags_bel (n := m2) (c0 := c0) (A0 := A0) _ (by omega) HC0.out) ?_
         rintro e wf ⟨rfl, bel⟩
         refine ⟨_, rfl, ?_⟩
         have SF := Lib.hid (Sd.out.go bel)
         have y1 := (SF.out.blk (i := 2) rfl).cell (i := 0) rfl
         clear bel)
      | (refine step_call rfl 129 #[.tmp 26, .tmp 28] #[68, 2] (by rfl) Try.func129 (by rfl) (by rfl) #[.pointer (some ⟨g, 0, none⟩), .int .i64 m2] (by first | (simp [Act.eval]; done) | simp [Act.eval, Act.put]) _ (drawP _ (D6.out.now SF.out) hn hm4) ?_
         rintro e wg ⟨wbg, A4, c4, pr, rfl, hpl, hpo, d4, st4⟩
         refine ⟨_, rfl, ?_⟩
         obtain ⟨wb5, d5, st5⟩ := D6.out.join SF.out d4 st4
         have D5 := Lib.hid d5
         have S5 := Lib.hid st5
         have HPL := Lib.hid hpl
         have HPO := Lib.hid hpo
         have z1 := (S5.out.blk (i := 2) rfl).cell (i := 0) rfl
         clear d4 st4 d5 st5 hpl hpo)
      | (refine step_call rfl 144 #[.tmp 25, .tmp 29] #[42, 33] (by rfl) Try.func144 (by rfl) (by rfl) #[.agg #[.slice (some ⟨gM, 0, none⟩) 3 cB], .slice A4 m2 c4] (by first | (simp [Act.eval]; done) | simp [Act.eval, Act.put]) _ (sren_any _ HL2.out (ownSS_rd (S5.out.sep.ownSS (i := 1) rfl)) HO2.out.sys HPL.out (own_rd (S5.out.own (i := 3) rfl)) HPO.out) ?_
         rintro e wh ⟨A6, c6, rfl, own6, bel6⟩
         refine ⟨_, rfl, ?_⟩
         obtain ⟨vals6, st6⟩ := S5.out.addRows bel6 own6 (Nat.le_refl _) (Nat.le_refl _)
         have S6 := Lib.hid st6
         have z0 := (S6.out.blk (i := 0) rfl).cell (i := 0) rfl
         have f0 := (S6.out.blk (i := 0) rfl).free 0
         have HO6 := Lib.hid (ren_ok HO2.out HPL.out HPO.out)
         clear own6 bel6 st6)))
    all_goals
      have hl6 : (renM x2 pr).length = 3 := by rw [renM_length, HL2.out]
      rw [hl6] at S6 ⊢
      have HL6 := Lib.hid hl6
      have hcap6 := ownSS_cap (S6.out.sep.ownSS (i := 4) rfl)
      have hc6 := hcap6.1
      have hc63 := hcap6.2
      have st4 := S6.out.blkSet (i := 0) rfl 0 (.slice A6 3 c6)
      have y0 := (st4.blk (i := 0) rfl).cell (i := 0) rfl
      clear hl6 hcap6
      go_wp2
      refine bodyPost_ret (v := .agg #[.slice A6 3 c6]) (by simp [results, Try.results91, go_sem, y0]) rfl ⟨wb5, A6, 3, c6, renM x2 pr, rfl, HL6.out, by omega, fun xs hx => by have := (HO6.out.inv xs hx).1; omega, hc6, hc63, D5.out, ?_⟩
      exact (st4.less (i := 4) rfl (P' := .rds A6 (renM x2 pr)) (fun F h => rows_rds h)).pick (fun i => i + 4) (fun i hi => by simp at hi ⊢; omega) (fun i hi => by match i, hi with | 0, _ => rfl) (fun i j _ _ h => by omega)
  · have n3 : ((r3 : Int) == 0) = false := by rw [beq_eq_false_iff_ne]; omega
    have hN1 := HO.out.r1
    have hN5 := HO.out.r5
    have hm1 := HO.out.n2
    have hm4 := HO.out.n4
    rw [HL.out] at hN1 hN5
    obtain ⟨gM, rfl⟩ := own_shape (S4.out.rows (i := 1) rfl) (show 0 < N by omega)
    obtain ⟨x0, hx0⟩ : ∃ x0, xss[0]? = some x0 := ⟨_, List.getElem?_eq_getElem (by rw [HL.out]; omega)⟩
    have hlen := (HO.out.inv x0 (List.mem_of_getElem? hx0)).1
    have Sd := Lib.hid (S4.out.go (below_drewN (Below.refl _ _) 1))
    obtain ⟨A0, c0, hv0, ow0⟩ := Sd.out.rowAt (i := 1) rfl hx0
    rw [hlen] at hv0
    have HC0 := Lib.hid (own_cell (Sd.out.rows (i := 1) rfl) hv0)
    have x1 := (S4.out.blk (i := 2) rfl).cell (i := 0) rfl
    clear hx0 hv0 ow0
    go_wp2
    go_region_law ((first
      | (refine step_call rfl 125 #[.tmp 27] #[42] (by rfl) Try.func125 (by rfl) (by rfl) #[.agg #[.slice (some ⟨gM, 0, none⟩) N cM]] (by first | (simp [Act.eval]; done) | simp [Act.eval, Act.put]) _ (sFlags_bel (n := m) (c0 := c0) (A0 := A0) _ (by omega) HC0.out) ?_
         rintro e wf ⟨rfl, bel⟩
         refine ⟨_, rfl, ?_⟩
         have SF := Lib.hid (Sd.out.go bel)
         have y1 := (SF.out.blk (i := 2) rfl).cell (i := 0) rfl
         clear bel)
      | (refine step_call rfl 129 #[.tmp 26, .tmp 28] #[68, 2] (by rfl) Try.func129 (by rfl) (by rfl) #[.pointer (some ⟨g, 0, none⟩), .int .i64 m] (by first | (simp [Act.eval]; done) | simp [Act.eval, Act.put]) _ (drawP _ (D4.out.now SF.out) hn hm4) ?_
         rintro e wg ⟨wbg, A4, c4, pr, rfl, hpl, hpo, d4, st4⟩
         refine ⟨_, rfl, ?_⟩
         obtain ⟨wb5, d5, st5⟩ := D4.out.join SF.out d4 st4
         have D5 := Lib.hid d5
         have S5 := Lib.hid st5
         have HPL := Lib.hid hpl
         have HPO := Lib.hid hpo
         have z1 := (S5.out.blk (i := 2) rfl).cell (i := 0) rfl
         clear d4 st4 d5 st5 hpl hpo)
      | (refine step_call rfl 144 #[.tmp 25, .tmp 29] #[42, 33] (by rfl) Try.func144 (by rfl) (by rfl) #[.agg #[.slice (some ⟨gM, 0, none⟩) N cM], .slice A4 m c4] (by first | (simp [Act.eval]; done) | simp [Act.eval, Act.put]) _ (sren_any _ HL.out (ownSS_rd (S5.out.sep.ownSS (i := 1) rfl)) HO.out.sys HPL.out (own_rd (S5.out.own (i := 3) rfl)) HPO.out) ?_
         rintro e wh ⟨A6, c6, rfl, own6, bel6⟩
         refine ⟨_, rfl, ?_⟩
         obtain ⟨vals6, st6⟩ := S5.out.addRows bel6 own6 (Nat.le_refl _) (Nat.le_refl _)
         have S6 := Lib.hid st6
         have z0 := (S6.out.blk (i := 0) rfl).cell (i := 0) rfl
         have f0 := (S6.out.blk (i := 0) rfl).free 0
         have HO6 := Lib.hid (ren_ok HO.out HPL.out HPO.out)
         clear own6 bel6 st6)))
    all_goals
      have hl6 : (renM xss pr).length = N := by rw [renM_length, HL.out]
      rw [hl6] at S6 ⊢
      have HL6 := Lib.hid hl6
      have hcap6 := ownSS_cap (S6.out.sep.ownSS (i := 4) rfl)
      have hc6 := hcap6.1
      have hc63 := hcap6.2
      have st4 := S6.out.blkSet (i := 0) rfl 0 (.slice A6 N c6)
      have y0 := (st4.blk (i := 0) rfl).cell (i := 0) rfl
      clear hl6 hcap6
      go_wp2
      refine bodyPost_ret (v := .agg #[.slice A6 N c6]) (by simp [results, Try.results91, go_sem, y0]) rfl ⟨wb5, A6, N, c6, renM xss pr, rfl, HL6.out, by omega, fun xs hx => by have := (HO6.out.inv xs hx).1; omega, hc6, hc63, D5.out, ?_⟩
      exact (st4.less (i := 4) rfl (P' := .rds A6 (renM xss pr)) (fun F h => rows_rds h)).pick (fun i => i + 4) (fun i hi => by simp at hi ⊢; omega) (fun i hi => by match i, hi with | 0, _ => rfl) (fun i j _ _ h => by omega)

set_option maxHeartbeats 1600000 in
theorem drawOpp (w : World) (hl : bs.length = n) (hr : Rd w A bs) (hu : ∀ v ∈ bs, ∃ x : Nat, v = .int .u8 x ∧ x < 256) (hn : n ≤ 1048576) :
    Calls Try.prog 30 #[.slice A n c] w (RetX w) := by
  have HR := Lib.hid (hr.keep ((Below.refl _ _).alloc (Nat.le_refl _) (.cells #[.slice none 0 0] 42)))
  have HL := Lib.hid hl
  have HU := Lib.hid hu
  have S0 := Lib.hid ((St.start w).addBlk #[.slice none 0 0] 42)
  clear hl hr hu
  go_enter Try.func30, Try.ntmps30
  go_wp2_with fail
  refine (from_any _ HL.out HR.out HU.out hn).mono ?_
  rintro e w1 ⟨g, at', h', rfl, hg, hg1, src, bel⟩
  have HS := Lib.hid (show SrcE w1 g A n c bs from ⟨at', h', src⟩)
  have BEL := Lib.hid bel
  clear src bel
  go_wp2_with fail
  refine (rank3P _ HS.out hn).mono ?_
  rintro e w2 ⟨wb, A', N, c', xss, rfl, hl, hN, hR, hc, hc63, d, st⟩
  obtain ⟨tu, sep⟩ := d.fin st
  have S2 := Lib.hid (S0.out.go (Turns.below BEL.out tu BEL.out.size hg))
  have HX := Lib.hid hl
  have HRR := Lib.hid hR
  have SEP := Lib.hid sep
  have hlt : w.heap.size < w1.heap.size := by have := BEL.out.size; simp at this; omega
  have z0 := (S2.out.blk (i := 0) rfl).cell (i := 0) rfl
  have f0 := (S2.out.blk (i := 0) rfl).free 0
  clear hl hR d st tu sep
  go_wp2
  have st4 := S2.out.blkSet (i := 0) rfl 0 (.slice A' N c')
  have y0 := (st4.blk (i := 0) rfl).cell (i := 0) rfl
  exact bodyPost_ret (v := .agg #[.slice A' N c']) (by simp [results, Try.results30, go_sem, y0]) rfl ⟨A', N, c', xss, rfl, HX.out, hN, fun xs hx => by have := HRR.out xs hx; omega, hc, hc63, rds_set SEP.out hlt, st4.below⟩
end
end Go.Proofs.Ytpmmpnhdimgkhaa
