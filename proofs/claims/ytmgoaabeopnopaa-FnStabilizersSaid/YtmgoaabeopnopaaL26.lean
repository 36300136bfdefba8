import Derived.Test.YtmgoaabeopnopaaL18
import Derived.Test.YtmgoaabeopnopaaGrd12
import Derived.Test.YtmgoaabeopnopaaGrd21
import Derived.Test.YtmgoaabeopnopaaGrd22
import Derived.Test.YtmgoaabeopnopaaL15
import Derived.Test.YtmgoaabeopnopaaL14
import Derived.Test.YtmgoaabeopnopaaLk
import Derived.Test.YtmgoaabeopnopaaFcn
/- spec.l06Even (written by gevn.py). -/
namespace Go.Proofs.Ytmgoaabeopnopaa
open Go.RowKit

/-- l05Grid at the numbers that are drawn. -/
theorem grid_any {a b : Nat} (w : World) (ha : 1 ≤ a ∧ a ≤ 2) (hb : 1 ≤ b ∧ b ≤ 2) :
    Calls Try.prog 156 #[.int .i64 a, .int .i64 b] w fun e w' => ∃ (A' : Option Addr) (c' m : Nat) (vals : List Value) (xss : List (List Int)), e = .returned (.agg #[.slice A' 3 c']) ∧ xss.length = 3 ∧ OkI m xss ∧ St w w' [.rows 2 36 A' 3 c' vals xss] := by
  have h4 : (a = 1 ∧ b = 1) ∨ (a = 1 ∧ b = 2) ∨ (a = 2 ∧ b = 1) ∨ (a = 2 ∧ b = 2) := by omega
  rcases h4 with ⟨rfl, rfl⟩ | ⟨rfl, rfl⟩ | ⟨rfl, rfl⟩ | ⟨rfl, rfl⟩
  · exact (grid11 w).mono fun e w' ⟨A', c', vals, h1, h2⟩ => ⟨A', c', 8, vals, _, h1, rfl, gr11_ok, h2⟩
  · exact (grid12 w).mono fun e w' ⟨A', c', vals, h1, h2⟩ => ⟨A', c', 16, vals, _, h1, rfl, gr12_ok, h2⟩
  · exact (grid21 w).mono fun e w' ⟨A', c', vals, h1, h2⟩ => ⟨A', c', 16, vals, _, h1, rfl, gr21_ok, h2⟩
  · exact (grid22 w).mono fun e w' ⟨A', c', vals, h1, h2⟩ => ⟨A', c', 32, vals, _, h1, rfl, gr22_ok, h2⟩
theorem dual_sys {n : Nat} {xss : List (List Int)} (hsys : okSys n xss = true) (hn : 0 < n) : ∃ l : Nat, 0 < l ∧ l ≤ 400 ∧ okSys l (dualL xss n) = true := by
  have hK : okSys n (wdsL xss n (dualW xss.length)) = true := wdsL_sys hsys (by rw [dualW_len]; exact (sys_parts hsys).2.2.1) (fun wd h => (dualW_ok rfl wd h).1)
  obtain ⟨hpa, hfm, _⟩ := orb_facts (f := 0) hK hn
  have h4 := (sys_parts hsys).2.1
  have hle := passed_len hpa
  exact ⟨_, List.length_pos_of_mem hfm, by omega, secL_sys hK hn rfl⟩
section
variable {A : Option Addr} {g n c : Nat} {bs : List Value}
set_option maxRecDepth 100000 in
set_option maxHeartbeats 12800000 in
theorem evenP (w : World) (hs : SrcE w g A n c bs) (hn : n ≤ 1048576) :
    Calls Try.prog 119 #[.pointer (some ⟨g, 0, none⟩)] w (RetSp w g A n c bs) := by
  have S0 := Lib.hid (show St w _ [.blk w.heap.size #[.slice none 0 0] 27, .blk (w.heap.size + 1) #[.slice none 0 0] 27] from by simpa using ((St.start w).addBlk #[.slice none 0 0] 27).addBlk #[.slice none 0 0] 27)
  have D0 := Lib.hid (Dr.start hs)
  clear hs
  go_enter Try.func119, Try.ntmps119
  go_wp2_with fail
  refine (nextE (N := 5) _ (D0.out.now S0.out) hn (by omega)).mono ?_
  rintro e w1 ⟨r1, rfl, ⟨h0_, h1_⟩, hs_, tu_⟩
  obtain ⟨wb1, d_, st_⟩ := D0.out.num S0.out hs_ tu_
  obtain ⟨r1, rfl⟩ := Int.eq_ofNat_of_zero_le h0_
  have D1 := Lib.hid d_
  have S1 := Lib.hid st_
  clear d_ st_ hs_ tu_
  by_cases e0 : r1 = 0
  · subst e0
    go_wp2_with fail
    refine (nextE (N := 2) _ (D1.out.now S1.out) hn (by omega)).mono ?_
    rintro e w2 ⟨r2, rfl, ⟨h0_, h1_⟩, hs_, tu_⟩
    obtain ⟨wb2, d_, st_⟩ := D1.out.num S1.out hs_ tu_
    obtain ⟨r2, rfl⟩ := Int.eq_ofNat_of_zero_le h0_
    have D2 := Lib.hid d_
    have S2 := Lib.hid st_
    clear d_ st_ hs_ tu_
    obtain ⟨a, hp_⟩ : ∃ p, 1 + r2 = p := ⟨_, rfl⟩
    have hIa : 1 + (r2 : Int) = (a : Int) := by omega
    have hba : 1 ≤ a ∧ a ≤ 2 := by omega
    have hwa : IntKind.i64.wrap (a : Int) = (a : Int) := IntWalk.i64_in _ (by omega)
    clear hp_ h0_ h1_
    go_wp2_with fail
    refine (nextE (N := 2) _ (D2.out.now S2.out) hn (by omega)).mono ?_
    rintro e w3 ⟨r3, rfl, ⟨h0_, h1_⟩, hs_, tu_⟩
    obtain ⟨wb3, d_, st_⟩ := D2.out.num S2.out hs_ tu_
    obtain ⟨r3, rfl⟩ := Int.eq_ofNat_of_zero_le h0_
    have D3 := Lib.hid d_
    have S3 := Lib.hid st_
    clear d_ st_ hs_ tu_
    obtain ⟨b, hp_⟩ : ∃ p, 1 + r3 = p := ⟨_, rfl⟩
    have hIb : 1 + (r3 : Int) = (b : Int) := by omega
    have hbb : 1 ≤ b ∧ b ≤ 2 := by omega
    have hwb : IntKind.i64.wrap (b : Int) = (b : Int) := IntWalk.i64_in _ (by omega)
    clear hp_ h0_ h1_
    go_wp2_with fail
    refine (grid_any (a := a) (b := b) _ hba hbb).mono ?_
    rintro e wg ⟨AG, cG, mG, vG, LG, rfl, lG, okG, st_⟩
    have sn_ := S3.out.join st_
    simp only [List.cons_append, List.nil_append] at sn_
    obtain ⟨gG, rfl⟩ := own_shape (sn_.rows (i := 2) rfl) (show 0 < 3 by omega)
    have S4 := Lib.hid sn_
    have OG := Lib.hid okG
    clear sn_ st_ okG S3
    have z_ := (S4.out.blk (i := 1) rfl).cell (i := 0) rfl
    have f_ := (S4.out.blk (i := 1) rfl).free 0
    have sn_ := S4.out.blkSet (i := 1) rfl 0 (.slice (some ⟨gG, 0, none⟩) 3 cG)
    have sm_ : St _ _ [.blk w.heap.size #[.slice none 0 0] 27, .rows 2 36 (some ⟨gG, 0, none⟩) 3 cG vG LG, .blk (w.heap.size + 1) #[.slice (some ⟨gG, 0, none⟩) 3 cG] 27] := sn_.pick (fun i => if i = 0 then 0 else if i = 1 then 2 else 1) (fun i hi => by simp at hi ⊢; split <;> (try split) <;> omega) (fun i hi => by
      match i, hi with
      | 0, _ => rfl
      | 1, _ => rfl
      | 2, _ => rfl) (fun i j hi hj h => by simp at hi hj ⊢; split <;> split <;> (try split) <;> (try split) <;> omega)
    have S5 := Lib.hid sm_
    clear sn_ sm_ S4
    have HL := Lib.hid (show (LG).length = 3 from lG)
    have HO := Lib.hid (OG.out.sys)
    have hm : 0 < mG := OG.out.n2
    have hm4 : mG ≤ 400 := OG.out.n4
    obtain ⟨x0, hx0⟩ : ∃ x0, (LG)[0]? = some x0 := ⟨_, List.getElem?_eq_getElem (by rw [HL.out]; decide)⟩
    have hlen : x0.length = mG := by have := ((sys_parts HO.out).2.2.2 x0 (List.mem_of_getElem? hx0)).1; omega
    have SB := Lib.hid S5.out
    clear S5
    go_wp2
    have Sd := Lib.hid (SB.out.go (below_drewN (Below.refl _ _) 1))
    obtain ⟨A0, c0, hv0, ow0⟩ := Sd.out.rowAt (i := 1) rfl hx0
    rw [hlen] at hv0
    have HC0 := Lib.hid (own_cell (Sd.out.rows (i := 1) rfl) hv0)
    clear hx0 hv0 ow0 hlen
    have x1 := (SB.out.blk (i := 2) rfl).cell (i := 0) rfl
    go_region_law ((first
      | (refine step_call rfl 87 #[.tmp 48] #[27] (by rfl) Try.func87 (by rfl) (by rfl) #[.agg #[.slice (some ⟨gG, 0, none⟩) 3 cG]] (by first | (simp [Act.eval]; done) | simp [Act.eval, Act.put]) _ (sFlags_bel (n := mG) (c0 := c0) (A0 := A0) _ (by omega) HC0.out) ?_
         rintro e wf ⟨rfl, bel⟩
         refine ⟨_, rfl, ?_⟩
         have S3 := Lib.hid (Sd.out.go bel)
         have y1 := (S3.out.blk (i := 2) rfl).cell (i := 0) rfl
         clear bel)
      | (refine step_call rfl 161 #[.tmp 47, .tmp 49] #[107, 2] (by rfl) Try.func161 (by rfl) (by rfl) #[.pointer (some ⟨g, 0, none⟩), .int .i64 mG] (by first | (simp [Act.eval]; done) | simp [Act.eval, Act.put]) _ (drawP _ (D3.out.now S3.out) hn hm4) ?_
         rintro e wd ⟨wb4, A4, c4, p, rfl, hpl, hpo, d4, st4⟩
         refine ⟨_, rfl, ?_⟩
         obtain ⟨wb5, d5, st5⟩ := D3.out.join S3.out d4 st4
         have D5 := Lib.hid d5
         have S5 := Lib.hid st5
         have HPL := Lib.hid hpl
         have HPO := Lib.hid hpo
         have z1 := (S5.out.blk (i := 2) rfl).cell (i := 0) rfl
         clear d4 st4 d5 st5 hpl hpo)
      | (refine step_call rfl 160 #[.tmp 46, .tmp 50] #[27, 36] (by rfl) Try.func160 (by rfl) (by rfl) #[.agg #[.slice (some ⟨gG, 0, none⟩) 3 cG], .slice A4 mG c4] (by first | (simp [Act.eval]; done) | simp [Act.eval, Act.put]) _ (sren_any _ HL.out (ownSS_rd (S5.out.sep.ownSS (i := 1) rfl)) HO.out HPL.out (own_rd (S5.out.own (i := 3) rfl)) HPO.out) ?_
         rintro e w6 ⟨A6, c6, rfl, own6, bel6⟩
         refine ⟨_, rfl, ?_⟩
         obtain ⟨vals6, st6⟩ := S5.out.addRows bel6 own6 (Nat.le_refl _) (Nat.le_refl _)
         have S6 := Lib.hid st6
         have z0 := (S6.out.blk (i := 0) rfl).cell (i := 0) rfl
         have f0 := (S6.out.blk (i := 0) rfl).free 0
         clear own6 bel6 st6)))
    all_goals
      have hl6 : (renM (LG) p).length = 3 := by rw [renM_length, HL.out]
      rw [hl6] at S6 ⊢
      have HL6 := Lib.hid hl6
      have hcp := ownSS_cap (S6.out.sep.ownSS (i := 4) rfl)
      have st4 := S6.out.blkSet (i := 0) rfl 0 (.slice A6 (3) c6)
      have y0 := (st4.blk (i := 0) rfl).cell (i := 0) rfl
      clear hl6
      go_wp2
      refine bodyPost_ret (v := .agg #[.slice A6 (3) c6]) (by simp [results, Try.results119, go_sem, y0]) rfl ⟨wb5, A6, 3, c6, renM (LG) p, rfl, HL6.out, by omega, fun xs hx => by have := renM_row HPL.out xs hx; omega, hcp.1, hcp.2, D5.out, ?_⟩
      exact (st4.less (i := 4) rfl (fun F h => rows_rds h)).pick (fun i => i + 4) (fun i hi => by simp at hi ⊢; omega) (fun i hi => by match i, hi with | 0, _ => rfl) (fun i j _ _ h => by omega)
  have n0 : ((r1 : Int) == 0) = false := by rw [beq_eq_false_iff_ne]; omega
  by_cases e1 : r1 = 1
  · subst e1
    go_wp2_with fail
    refine (nextE (N := 4) _ (D1.out.now S1.out) hn (by omega)).mono ?_
    rintro e w2 ⟨r2, rfl, ⟨h0_, h1_⟩, hs_, tu_⟩
    obtain ⟨wb2, d_, st_⟩ := D1.out.num S1.out hs_ tu_
    obtain ⟨r2, rfl⟩ := Int.eq_ofNat_of_zero_le h0_
    have D2 := Lib.hid d_
    have S2 := Lib.hid st_
    clear d_ st_ hs_ tu_
    obtain ⟨a, hp_⟩ : ∃ p, 1 + r2 = p := ⟨_, rfl⟩
    have hIa : 1 + (r2 : Int) = (a : Int) := by omega
    have hba : 1 ≤ a ∧ a ≤ 4 := by omega
    have hwa : IntKind.i64.wrap (a : Int) = (a : Int) := IntWalk.i64_in _ (by omega)
    clear hp_ h0_ h1_
    go_wp2_with fail
    refine (polyg_any (p := a) (n := 2 * a) _ (by omega) rfl (by omega)).mono ?_
    rintro e w3 ⟨A3, c3, v3, rfl, st_⟩
    have sn_ := S2.out.join st_
    simp only [List.cons_append, List.nil_append] at sn_
    obtain ⟨g3, rfl⟩ := own_shape (sn_.rows (i := 2) rfl) (show 0 < 2 by omega)
    have S3 := Lib.hid sn_
    clear sn_ st_ S2
    go_wp2_with fail
    refine (nextE (N := 2) _ (D2.out.now S3.out) hn (by omega)).mono ?_
    rintro e w4 ⟨r4, rfl, ⟨h0_, h1_⟩, hs_, tu_⟩
    obtain ⟨wb4, d_, st_⟩ := D2.out.num S3.out hs_ tu_
    obtain ⟨r4, rfl⟩ := Int.eq_ofNat_of_zero_le h0_
    have D3 := Lib.hid d_
    have S4 := Lib.hid st_
    clear d_ st_ hs_ tu_
    obtain ⟨b, hp_⟩ : ∃ p, 1 + r4 = p := ⟨_, rfl⟩
    have hIb : 1 + (r4 : Int) = (b : Int) := by omega
    have hbb : 1 ≤ b ∧ b ≤ 2 := by omega
    have hwb : IntKind.i64.wrap (b : Int) = (b : Int) := IntWalk.i64_in _ (by omega)
    clear hp_ h0_ h1_
    go_wp2_with fail
    refine (polyg_any (p := b) (n := 2 * b) _ (by omega) rfl (by omega)).mono ?_
    rintro e w5 ⟨A5, c5, v5, rfl, st_⟩
    have sn_ := S4.out.join st_
    simp only [List.cons_append, List.nil_append] at sn_
    obtain ⟨g5, rfl⟩ := own_shape (sn_.rows (i := 3) rfl) (show 0 < 2 by omega)
    have S5 := Lib.hid sn_
    clear sn_ st_ S4
    have RM := Lib.hid (ownSS_rd (S5.out.sep.ownSS (i := 2) rfl))
    have RE := Lib.hid (ownSS_rd (S5.out.sep.ownSS (i := 3) rfl))
    go_wp2_with fail
    refine (beside_any (N := 2) (M := 2) (a := (2 * a)) (b := (2 * b)) _ rfl rfl RM.out RE.out (pg_ok (p := a) (by omega) (by omega)) (pg_ok (p := b) (by omega) (by omega)) (by first | omega | (have := Nat.mul_le_mul (show 2 * a ≤ 8 by omega) (show 2 * b ≤ 4 by omega); omega)) (by decide)).mono ?_
    rintro e wB ⟨AB, cB, vB, rfl, st_⟩
    have okB := besL_ok (pg_ok (p := a) (by omega) (by omega)) (pg_ok (p := b) (by omega) (by omega)) (by first | omega | (have := Nat.mul_le_mul (show 2 * a ≤ 8 by omega) (show 2 * b ≤ 4 by omega); omega)) (by simp [pgL])
    obtain ⟨LB, hLB⟩ : ∃ L, besL (2 * a) (2 * b) (pgL (2 * a)) (pgL (2 * b)) = L := ⟨_, rfl⟩
    obtain ⟨mB, hmB⟩ : ∃ m, (2 * a) * (2 * b) = m := ⟨_, rfl⟩
    have lB : LB.length = 4 := by rw [← hLB, besL_len]; rfl
    rw [hLB] at st_ okB
    rw [hmB] at okB
    have st2_ : St _ _ [.rows 2 36 AB 4 cB vB LB] := st_
    have sn_ := S5.out.join st2_
    simp only [List.cons_append, List.nil_append] at sn_
    obtain ⟨gB, rfl⟩ := own_shape (sn_.rows (i := 4) rfl) (show 0 < 4 by omega)
    have S6 := Lib.hid sn_
    have OB := Lib.hid okB
    have HLB := Lib.hid lB
    clear sn_ st_ st2_ okB lB hLB hmB S5 RM RE
    have z_ := (S6.out.blk (i := 1) rfl).cell (i := 0) rfl
    have f_ := (S6.out.blk (i := 1) rfl).free 0
    have sn_ := S6.out.blkSet (i := 1) rfl 0 (.slice (some ⟨gB, 0, none⟩) 4 cB)
    have sm_ : St _ _ [.blk w.heap.size #[.slice none 0 0] 27, .rows 2 36 (some ⟨gB, 0, none⟩) 4 cB vB LB, .blk (w.heap.size + 1) #[.slice (some ⟨gB, 0, none⟩) 4 cB] 27] := sn_.pick (fun i => if i = 0 then 0 else if i = 1 then 4 else 1) (fun i hi => by simp at hi ⊢; split <;> (try split) <;> omega) (fun i hi => by
      match i, hi with
      | 0, _ => rfl
      | 1, _ => rfl
      | 2, _ => rfl) (fun i j hi hj h => by simp at hi hj ⊢; split <;> split <;> (try split) <;> (try split) <;> omega)
    have S7 := Lib.hid sm_
    clear sn_ sm_ S6
    have HL := Lib.hid (show (LB).length = 4 from HLB.out)
    have HO := Lib.hid (OB.out.sys)
    have hm : 0 < mB := OB.out.n2
    have hm4 : mB ≤ 400 := OB.out.n4
    obtain ⟨x0, hx0⟩ : ∃ x0, (LB)[0]? = some x0 := ⟨_, List.getElem?_eq_getElem (by rw [HL.out]; decide)⟩
    have hlen : x0.length = mB := by have := ((sys_parts HO.out).2.2.2 x0 (List.mem_of_getElem? hx0)).1; omega
    have SB := Lib.hid S7.out
    clear S7
    go_wp2
    have Sd := Lib.hid (SB.out.go (below_drewN (Below.refl _ _) 1))
    obtain ⟨A0, c0, hv0, ow0⟩ := Sd.out.rowAt (i := 1) rfl hx0
    rw [hlen] at hv0
    have HC0 := Lib.hid (own_cell (Sd.out.rows (i := 1) rfl) hv0)
    clear hx0 hv0 ow0 hlen
    have x1 := (SB.out.blk (i := 2) rfl).cell (i := 0) rfl
    go_region_law ((first
      | (refine step_call rfl 87 #[.tmp 48] #[27] (by rfl) Try.func87 (by rfl) (by rfl) #[.agg #[.slice (some ⟨gB, 0, none⟩) 4 cB]] (by first | (simp [Act.eval]; done) | simp [Act.eval, Act.put]) _ (sFlags_bel (n := mB) (c0 := c0) (A0 := A0) _ (by omega) HC0.out) ?_
         rintro e wf ⟨rfl, bel⟩
         refine ⟨_, rfl, ?_⟩
         have S3 := Lib.hid (Sd.out.go bel)
         have y1 := (S3.out.blk (i := 2) rfl).cell (i := 0) rfl
         clear bel)
      | (refine step_call rfl 161 #[.tmp 47, .tmp 49] #[107, 2] (by rfl) Try.func161 (by rfl) (by rfl) #[.pointer (some ⟨g, 0, none⟩), .int .i64 mB] (by first | (simp [Act.eval]; done) | simp [Act.eval, Act.put]) _ (drawP _ (D3.out.now S3.out) hn hm4) ?_
         rintro e wd ⟨wb4, A4, c4, p, rfl, hpl, hpo, d4, st4⟩
         refine ⟨_, rfl, ?_⟩
         obtain ⟨wb5, d5, st5⟩ := D3.out.join S3.out d4 st4
         have D5 := Lib.hid d5
         have S5 := Lib.hid st5
         have HPL := Lib.hid hpl
         have HPO := Lib.hid hpo
         have z1 := (S5.out.blk (i := 2) rfl).cell (i := 0) rfl
         clear d4 st4 d5 st5 hpl hpo)
      | (refine step_call rfl 160 #[.tmp 46, .tmp 50] #[27, 36] (by rfl) Try.func160 (by rfl) (by rfl) #[.agg #[.slice (some ⟨gB, 0, none⟩) 4 cB], .slice A4 mB c4] (by first | (simp [Act.eval]; done) | simp [Act.eval, Act.put]) _ (sren_any _ HL.out (ownSS_rd (S5.out.sep.ownSS (i := 1) rfl)) HO.out HPL.out (own_rd (S5.out.own (i := 3) rfl)) HPO.out) ?_
         rintro e w6 ⟨A6, c6, rfl, own6, bel6⟩
         refine ⟨_, rfl, ?_⟩
         obtain ⟨vals6, st6⟩ := S5.out.addRows bel6 own6 (Nat.le_refl _) (Nat.le_refl _)
         have S6 := Lib.hid st6
         have z0 := (S6.out.blk (i := 0) rfl).cell (i := 0) rfl
         have f0 := (S6.out.blk (i := 0) rfl).free 0
         clear own6 bel6 st6)))
    all_goals
      have hl6 : (renM (LB) p).length = 4 := by rw [renM_length, HL.out]
      rw [hl6] at S6 ⊢
      have HL6 := Lib.hid hl6
      have hcp := ownSS_cap (S6.out.sep.ownSS (i := 4) rfl)
      have st4 := S6.out.blkSet (i := 0) rfl 0 (.slice A6 (4) c6)
      have y0 := (st4.blk (i := 0) rfl).cell (i := 0) rfl
      clear hl6
      go_wp2
      refine bodyPost_ret (v := .agg #[.slice A6 (4) c6]) (by simp [results, Try.results119, go_sem, y0]) rfl ⟨wb5, A6, 4, c6, renM (LB) p, rfl, HL6.out, by omega, fun xs hx => by have := renM_row HPL.out xs hx; omega, hcp.1, hcp.2, D5.out, ?_⟩
      exact (st4.less (i := 4) rfl (fun F h => rows_rds h)).pick (fun i => i + 4) (fun i hi => by simp at hi ⊢; omega) (fun i hi => by match i, hi with | 0, _ => rfl) (fun i j _ _ h => by omega)
  have n1 : ((r1 : Int) == 1) = false := by rw [beq_eq_false_iff_ne]; omega
  by_cases e2 : r1 = 2
  · subst e2
    go_wp2_with fail
    refine (nextE (N := 10) _ (D1.out.now S1.out) hn (by omega)).mono ?_
    rintro e w2 ⟨r2, rfl, ⟨h0_, h1_⟩, hs_, tu_⟩
    obtain ⟨wb2, d_, st_⟩ := D1.out.num S1.out hs_ tu_
    obtain ⟨r2, rfl⟩ := Int.eq_ofNat_of_zero_le h0_
    have D2 := Lib.hid d_
    have S2 := Lib.hid st_
    clear d_ st_ hs_ tu_
    obtain ⟨a, hp_⟩ : ∃ p, 1 + r2 = p := ⟨_, rfl⟩
    have hIa : 1 + (r2 : Int) = (a : Int) := by omega
    have hba : 1 ≤ a ∧ a ≤ 10 := by omega
    have hwa : IntKind.i64.wrap (a : Int) = (a : Int) := IntWalk.i64_in _ (by omega)
    clear hp_ h0_ h1_
    go_wp2_with fail
    refine (polyg_any (p := a) (n := 2 * a) _ (by omega) rfl (by omega)).mono ?_
    rintro e w3 ⟨A3, c3, v3, rfl, st_⟩
    have sn_ := S2.out.join st_
    simp only [List.cons_append, List.nil_append] at sn_
    obtain ⟨g3, rfl⟩ := own_shape (sn_.rows (i := 2) rfl) (show 0 < 2 by omega)
    have S3 := Lib.hid sn_
    clear sn_ st_ S2
    have okG := pg_ok (p := a) (by omega) (by omega)
    obtain ⟨LG, hLG⟩ : ∃ L, pgL (2 * a) = L := ⟨_, rfl⟩
    obtain ⟨mG, hmG⟩ : ∃ m, 2 * a = m := ⟨_, rfl⟩
    have lG : LG.length = 2 := by rw [← hLG]; rfl
    have sn_ := S3.out
    rw [hLG] at sn_ okG
    rw [hmG] at okG
    have S4 := Lib.hid sn_
    have OG := Lib.hid okG
    have HLG := Lib.hid lG
    clear sn_ okG lG hLG hmG S3
    have z_ := (S4.out.blk (i := 1) rfl).cell (i := 0) rfl
    have f_ := (S4.out.blk (i := 1) rfl).free 0
    have sn_ := S4.out.blkSet (i := 1) rfl 0 (.slice (some ⟨g3, 0, none⟩) 2 c3)
    have sm_ : St _ _ [.blk w.heap.size #[.slice none 0 0] 27, .rows 2 36 (some ⟨g3, 0, none⟩) 2 c3 v3 LG, .blk (w.heap.size + 1) #[.slice (some ⟨g3, 0, none⟩) 2 c3] 27] := sn_.pick (fun i => if i = 0 then 0 else if i = 1 then 2 else 1) (fun i hi => by simp at hi ⊢; split <;> (try split) <;> omega) (fun i hi => by
      match i, hi with
      | 0, _ => rfl
      | 1, _ => rfl
      | 2, _ => rfl) (fun i j hi hj h => by simp at hi hj ⊢; split <;> split <;> (try split) <;> (try split) <;> omega)
    have S5 := Lib.hid sm_
    clear sn_ sm_ S4
    have HL := Lib.hid (show (LG).length = 2 from HLG.out)
    have HO := Lib.hid (OG.out.sys)
    have hm : 0 < mG := OG.out.n2
    have hm4 : mG ≤ 400 := OG.out.n4
    obtain ⟨x0, hx0⟩ : ∃ x0, (LG)[0]? = some x0 := ⟨_, List.getElem?_eq_getElem (by rw [HL.out]; decide)⟩
    have hlen : x0.length = mG := by have := ((sys_parts HO.out).2.2.2 x0 (List.mem_of_getElem? hx0)).1; omega
    have SB := Lib.hid S5.out
    clear S5
    go_wp2
    have Sd := Lib.hid (SB.out.go (below_drewN (Below.refl _ _) 1))
    obtain ⟨A0, c0, hv0, ow0⟩ := Sd.out.rowAt (i := 1) rfl hx0
    rw [hlen] at hv0
    have HC0 := Lib.hid (own_cell (Sd.out.rows (i := 1) rfl) hv0)
    clear hx0 hv0 ow0 hlen
    have x1 := (SB.out.blk (i := 2) rfl).cell (i := 0) rfl
    go_region_law ((first
      | (refine step_call rfl 87 #[.tmp 48] #[27] (by rfl) Try.func87 (by rfl) (by rfl) #[.agg #[.slice (some ⟨g3, 0, none⟩) 2 c3]] (by first | (simp [Act.eval]; done) | simp [Act.eval, Act.put]) _ (sFlags_bel (n := mG) (c0 := c0) (A0 := A0) _ (by omega) HC0.out) ?_
         rintro e wf ⟨rfl, bel⟩
         refine ⟨_, rfl, ?_⟩
         have S3 := Lib.hid (Sd.out.go bel)
         have y1 := (S3.out.blk (i := 2) rfl).cell (i := 0) rfl
         clear bel)
      | (refine step_call rfl 161 #[.tmp 47, .tmp 49] #[107, 2] (by rfl) Try.func161 (by rfl) (by rfl) #[.pointer (some ⟨g, 0, none⟩), .int .i64 mG] (by first | (simp [Act.eval]; done) | simp [Act.eval, Act.put]) _ (drawP _ (D2.out.now S3.out) hn hm4) ?_
         rintro e wd ⟨wb4, A4, c4, p, rfl, hpl, hpo, d4, st4⟩
         refine ⟨_, rfl, ?_⟩
         obtain ⟨wb5, d5, st5⟩ := D2.out.join S3.out d4 st4
         have D5 := Lib.hid d5
         have S5 := Lib.hid st5
         have HPL := Lib.hid hpl
         have HPO := Lib.hid hpo
         have z1 := (S5.out.blk (i := 2) rfl).cell (i := 0) rfl
         clear d4 st4 d5 st5 hpl hpo)
      | (refine step_call rfl 160 #[.tmp 46, .tmp 50] #[27, 36] (by rfl) Try.func160 (by rfl) (by rfl) #[.agg #[.slice (some ⟨g3, 0, none⟩) 2 c3], .slice A4 mG c4] (by first | (simp [Act.eval]; done) | simp [Act.eval, Act.put]) _ (sren_any _ HL.out (ownSS_rd (S5.out.sep.ownSS (i := 1) rfl)) HO.out HPL.out (own_rd (S5.out.own (i := 3) rfl)) HPO.out) ?_
         rintro e w6 ⟨A6, c6, rfl, own6, bel6⟩
         refine ⟨_, rfl, ?_⟩
         obtain ⟨vals6, st6⟩ := S5.out.addRows bel6 own6 (Nat.le_refl _) (Nat.le_refl _)
         have S6 := Lib.hid st6
         have z0 := (S6.out.blk (i := 0) rfl).cell (i := 0) rfl
         have f0 := (S6.out.blk (i := 0) rfl).free 0
         clear own6 bel6 st6)))
    all_goals
      have hl6 : (renM (LG) p).length = 2 := by rw [renM_length, HL.out]
      rw [hl6] at S6 ⊢
      have HL6 := Lib.hid hl6
      have hcp := ownSS_cap (S6.out.sep.ownSS (i := 4) rfl)
      have st4 := S6.out.blkSet (i := 0) rfl 0 (.slice A6 (2) c6)
      have y0 := (st4.blk (i := 0) rfl).cell (i := 0) rfl
      clear hl6
      go_wp2
      refine bodyPost_ret (v := .agg #[.slice A6 (2) c6]) (by simp [results, Try.results119, go_sem, y0]) rfl ⟨wb5, A6, 2, c6, renM (LG) p, rfl, HL6.out, by omega, fun xs hx => by have := renM_row HPL.out xs hx; omega, hcp.1, hcp.2, D5.out, ?_⟩
      exact (st4.less (i := 4) rfl (fun F h => rows_rds h)).pick (fun i => i + 4) (fun i hi => by simp at hi ⊢; omega) (fun i hi => by match i, hi with | 0, _ => rfl) (fun i j _ _ h => by omega)
  have n2 : ((r1 : Int) == 2) = false := by rw [beq_eq_false_iff_ne]; omega
  by_cases e3 : r1 = 3
  · subst e3
    go_wp2_with fail
    refine (spoil2P (most := 40) _ (D1.out.now S1.out) hn (by omega) (by omega)).mono ?_
    rintro e w2 ⟨wb, A', N, c', xss, rfl, hl, hN, hR, hc, hc63, d_, st_⟩
    obtain ⟨wb2, d2_, st2_⟩ := D1.out.join S1.out d_ st_
    simp only [List.cons_append, List.nil_append] at st2_
    have HX := Lib.hid hl
    have HRR := Lib.hid hR
    have S9 := Lib.hid st2_
    have D9 := Lib.hid d2_
    clear hl hR d_ st_ d2_ st2_
    have z0 := (S9.out.blk (i := 0) rfl).cell (i := 0) rfl
    have f0 := (S9.out.blk (i := 0) rfl).free 0
    go_wp2
    have st4 := S9.out.blkSet (i := 0) rfl 0 (.slice A' N c')
    have y0 := (st4.blk (i := 0) rfl).cell (i := 0) rfl
    refine bodyPost_ret (v := .agg #[.slice A' N c']) (by simp [results, Try.results119, go_sem, y0]) rfl ⟨wb2, A', N, c', xss, rfl, HX.out, hN, HRR.out, hc, hc63, D9.out, ?_⟩
    exact st4.pick (fun i => i + 2) (fun i hi => by simp at hi ⊢; omega) (fun i hi => by match i, hi with | 0, _ => rfl) (fun i j _ _ h => by omega)
  have n3 : ((r1 : Int) == 3) = false := by rw [beq_eq_false_iff_ne]; omega
  · skip
    go_wp2_with fail
    refine (nextE (N := 5) _ (D1.out.now S1.out) hn (by omega)).mono ?_
    rintro e w2 ⟨r2, rfl, ⟨h0_, h1_⟩, hs_, tu_⟩
    obtain ⟨wb2, d_, st_⟩ := D1.out.num S1.out hs_ tu_
    obtain ⟨r2, rfl⟩ := Int.eq_ofNat_of_zero_le h0_
    have D2 := Lib.hid d_
    have S2 := Lib.hid st_
    clear d_ st_ hs_ tu_
    obtain ⟨a, hp_⟩ : ∃ p, 1 + r2 = p := ⟨_, rfl⟩
    have hIa : 1 + (r2 : Int) = (a : Int) := by omega
    have hba : 1 ≤ a ∧ a ≤ 5 := by omega
    have hwa : IntKind.i64.wrap (a : Int) = (a : Int) := IntWalk.i64_in _ (by omega)
    clear hp_ h0_ h1_
    go_wp2_with fail
    refine (polyg_any (p := a) (n := 2 * a) _ (by omega) rfl (by omega)).mono ?_
    rintro e w3 ⟨A3, c3, v3, rfl, st_⟩
    have sn_ := S2.out.join st_
    simp only [List.cons_append, List.nil_append] at sn_
    obtain ⟨g3, rfl⟩ := own_shape (sn_.rows (i := 2) rfl) (show 0 < 2 by omega)
    have S3 := Lib.hid sn_
    clear sn_ st_ S2
    have sn_ := (S3.out.addLit2 (.int .i64 1) (.int .i64 0) 2).rowLit (j := 3) (xs := [1, 0]) rfl rfl 36
    simp only [List.cons_append, List.nil_append, List.set_cons_succ, List.set_cons_zero] at sn_
    have sm_ : St wb2 ((w3.alloc (.cells #[.int .i64 1, .int .i64 0] 2)).alloc (.cells #[.slice (some ⟨w3.heap.size, 0, none⟩) 2 2] 36)) [.blk w.heap.size #[.slice none 0 0] 27, .blk (w.heap.size + 1) #[.slice none 0 0] 27, .rows 2 36 (some ⟨g3, 0, none⟩) 2 c3 v3 (pgL (2 * a)), .emp, .rows 2 36 (some ⟨w3.heap.size + 1, 0, none⟩) 1 1 [.slice (some ⟨w3.heap.size, 0, none⟩) 2 2] edgeL] := by simpa [edgeL] using sn_
    have S4 := Lib.hid sm_
    clear sn_ sm_ S3
    have RM := Lib.hid (ownSS_rd (S4.out.sep.ownSS (i := 2) rfl))
    have RE := Lib.hid (ownSS_rd (S4.out.sep.ownSS (i := 4) rfl))
    go_wp2_with fail
    refine (beside_any (N := 2) (M := 1) (a := (2 * a)) (b := 2) _ rfl rfl RM.out RE.out (pg_ok (p := a) (by omega) (by omega)) (edge_ok) (by first | omega | (have := Nat.mul_le_mul (show 2 * a ≤ 8 by omega) (show 2 * b ≤ 4 by omega); omega)) (by decide)).mono ?_
    rintro e wB ⟨AB, cB, vB, rfl, st_⟩
    have okB := besL_ok (pg_ok (p := a) (by omega) (by omega)) (edge_ok) (by first | omega | (have := Nat.mul_le_mul (show 2 * a ≤ 8 by omega) (show 2 * b ≤ 4 by omega); omega)) (by simp [pgL, edgeL])
    obtain ⟨LB, hLB⟩ : ∃ L, besL (2 * a) 2 (pgL (2 * a)) (edgeL) = L := ⟨_, rfl⟩
    obtain ⟨mB, hmB⟩ : ∃ m, (2 * a) * 2 = m := ⟨_, rfl⟩
    have lB : LB.length = 3 := by rw [← hLB, besL_len]; rfl
    rw [hLB] at st_ okB
    rw [hmB] at okB
    have st2_ : St _ _ [.rows 2 36 AB 3 cB vB LB] := st_
    have sn_ := S4.out.join st2_
    simp only [List.cons_append, List.nil_append] at sn_
    obtain ⟨gB, rfl⟩ := own_shape (sn_.rows (i := 5) rfl) (show 0 < 3 by omega)
    have S5 := Lib.hid sn_
    have OB := Lib.hid okB
    have HLB := Lib.hid lB
    clear sn_ st_ st2_ okB lB hLB hmB S4 RM RE
    obtain ⟨x0, hx0⟩ : ∃ x0, LB[0]? = some x0 := ⟨_, List.getElem?_eq_getElem (by rw [HLB.out]; decide)⟩
    have hlen := (OB.out.inv x0 (List.mem_of_getElem? hx0)).1
    obtain ⟨A0, c0, hv0, ow0⟩ := S5.out.rowAt (i := 5) rfl hx0
    rw [hlen] at hv0
    have HC0 := Lib.hid (own_cell (S5.out.rows (i := 5) rfl) hv0)
    clear hx0 hv0 ow0 hlen
    go_wp2_with fail
    refine (sdual_any (n := mB) _ HLB.out (ownSS_rd (S5.out.sep.ownSS (i := 5) rfl)) OB.out.sys HC0.out (by decide) OB.out.n2 (by decide)).mono ?_
    rintro e wD ⟨AD, cD, vD, rfl, st_⟩
    have sn_ := S5.out.join st_
    simp only [List.cons_append, List.nil_append] at sn_
    obtain ⟨gD, rfl⟩ := own_shape (sn_.rows (i := 6) rfl) (show 0 < 3 by omega)
    obtain ⟨md, hd0, hd4, hds⟩ := dual_sys OB.out.sys OB.out.n2
    obtain ⟨LD, hLD⟩ : ∃ L, dualL LB mB = L := ⟨_, rfl⟩
    have lD : LD.length = 3 := by rw [← hLD, dualL, repL_len, dualW_len, HLB.out]
    rw [hLD] at sn_ hds
    have S6 := Lib.hid sn_
    have DS := Lib.hid hds
    have HLD := Lib.hid lD
    clear sn_ st_ hds hLD lD S5 HC0
    have z_ := (S6.out.blk (i := 1) rfl).cell (i := 0) rfl
    have f_ := (S6.out.blk (i := 1) rfl).free 0
    have sn_ := S6.out.blkSet (i := 1) rfl 0 (.slice (some ⟨gD, 0, none⟩) 3 cD)
    have sm_ : St _ _ [.blk w.heap.size #[.slice none 0 0] 27, .rows 2 36 (some ⟨gD, 0, none⟩) 3 cD vD LD, .blk (w.heap.size + 1) #[.slice (some ⟨gD, 0, none⟩) 3 cD] 27] := sn_.pick (fun i => if i = 0 then 0 else if i = 1 then 6 else 1) (fun i hi => by simp at hi ⊢; split <;> (try split) <;> omega) (fun i hi => by
      match i, hi with
      | 0, _ => rfl
      | 1, _ => rfl
      | 2, _ => rfl) (fun i j hi hj h => by simp at hi hj ⊢; split <;> split <;> (try split) <;> (try split) <;> omega)
    have S7 := Lib.hid sm_
    clear sn_ sm_ S6
    have HL := Lib.hid (show (LD).length = 3 from HLD.out)
    have HO := Lib.hid (DS.out)
    have hm : 0 < md := hd0
    have hm4 : md ≤ 400 := hd4
    obtain ⟨x0, hx0⟩ : ∃ x0, (LD)[0]? = some x0 := ⟨_, List.getElem?_eq_getElem (by rw [HL.out]; decide)⟩
    have hlen : x0.length = md := by have := ((sys_parts HO.out).2.2.2 x0 (List.mem_of_getElem? hx0)).1; omega
    have SB := Lib.hid S7.out
    clear S7
    go_wp2
    have Sd := Lib.hid (SB.out.go (below_drewN (Below.refl _ _) 1))
    obtain ⟨A0, c0, hv0, ow0⟩ := Sd.out.rowAt (i := 1) rfl hx0
    rw [hlen] at hv0
    have HC0 := Lib.hid (own_cell (Sd.out.rows (i := 1) rfl) hv0)
    clear hx0 hv0 ow0 hlen
    have x1 := (SB.out.blk (i := 2) rfl).cell (i := 0) rfl
    go_region_law ((first
      | (refine step_call rfl 87 #[.tmp 48] #[27] (by rfl) Try.func87 (by rfl) (by rfl) #[.agg #[.slice (some ⟨gD, 0, none⟩) 3 cD]] (by first | (simp [Act.eval]; done) | simp [Act.eval, Act.put]) _ (sFlags_bel (n := md) (c0 := c0) (A0 := A0) _ (by omega) HC0.out) ?_
         rintro e wf ⟨rfl, bel⟩
         refine ⟨_, rfl, ?_⟩
         have S3 := Lib.hid (Sd.out.go bel)
         have y1 := (S3.out.blk (i := 2) rfl).cell (i := 0) rfl
         clear bel)
      | (refine step_call rfl 161 #[.tmp 47, .tmp 49] #[107, 2] (by rfl) Try.func161 (by rfl) (by rfl) #[.pointer (some ⟨g, 0, none⟩), .int .i64 md] (by first | (simp [Act.eval]; done) | simp [Act.eval, Act.put]) _ (drawP _ (D2.out.now S3.out) hn hm4) ?_
         rintro e wd ⟨wb4, A4, c4, p, rfl, hpl, hpo, d4, st4⟩
         refine ⟨_, rfl, ?_⟩
         obtain ⟨wb5, d5, st5⟩ := D2.out.join S3.out d4 st4
         have D5 := Lib.hid d5
         have S5 := Lib.hid st5
         have HPL := Lib.hid hpl
         have HPO := Lib.hid hpo
         have z1 := (S5.out.blk (i := 2) rfl).cell (i := 0) rfl
         clear d4 st4 d5 st5 hpl hpo)
      | (refine step_call rfl 160 #[.tmp 46, .tmp 50] #[27, 36] (by rfl) Try.func160 (by rfl) (by rfl) #[.agg #[.slice (some ⟨gD, 0, none⟩) 3 cD], .slice A4 md c4] (by first | (simp [Act.eval]; done) | simp [Act.eval, Act.put]) _ (sren_any _ HL.out (ownSS_rd (S5.out.sep.ownSS (i := 1) rfl)) HO.out HPL.out (own_rd (S5.out.own (i := 3) rfl)) HPO.out) ?_
         rintro e w6 ⟨A6, c6, rfl, own6, bel6⟩
         refine ⟨_, rfl, ?_⟩
         obtain ⟨vals6, st6⟩ := S5.out.addRows bel6 own6 (Nat.le_refl _) (Nat.le_refl _)
         have S6 := Lib.hid st6
         have z0 := (S6.out.blk (i := 0) rfl).cell (i := 0) rfl
         have f0 := (S6.out.blk (i := 0) rfl).free 0
         clear own6 bel6 st6)))
    all_goals
      have hl6 : (renM (LD) p).length = 3 := by rw [renM_length, HL.out]
      rw [hl6] at S6 ⊢
      have HL6 := Lib.hid hl6
      have hcp := ownSS_cap (S6.out.sep.ownSS (i := 4) rfl)
      have st4 := S6.out.blkSet (i := 0) rfl 0 (.slice A6 (3) c6)
      have y0 := (st4.blk (i := 0) rfl).cell (i := 0) rfl
      clear hl6
      go_wp2
      refine bodyPost_ret (v := .agg #[.slice A6 (3) c6]) (by simp [results, Try.results119, go_sem, y0]) rfl ⟨wb5, A6, 3, c6, renM (LD) p, rfl, HL6.out, by omega, fun xs hx => by have := renM_row HPL.out xs hx; omega, hcp.1, hcp.2, D5.out, ?_⟩
      exact (st4.less (i := 4) rfl (fun F h => rows_rds h)).pick (fun i => i + 4) (fun i hi => by simp at hi ⊢; omega) (fun i hi => by match i, hi with | 0, _ => rfl) (fun i j _ _ h => by omega)
end
end Go.Proofs.Ytmgoaabeopnopaa
/- laws.then5, laws.hasRow5; spec.DrawAutomorphismsOf. -/
namespace Go.Proofs.Ytmgoaabeopnopaa
open Go.RowKit

theorem thenL_take {xs ys : List Int} {k j : Nat} {y : Int} (h : xs[k]? = some (j : Int)) (hy : ys[j]? = some y) : (thenL xs ys).take (k + 1) = (thenL xs ys).take k ++ [y] := by
  rw [List.take_add_one, thenL_at h hy]; rfl
set_option maxHeartbeats 1600000 in
theorem then5_any {A B : Option Addr} {n m c d : Nat} {xs ys : List Int} (w : World) (hx : xs.length = n) (hy : ys.length = m) (ha : Rd w A (ints xs)) (hb : Rd w B (ints ys)) (hn : n ≤ 400) (hin : ∀ x ∈ xs, 0 ≤ x ∧ x < (m : Int)) :
    Calls Try.prog 66 #[.slice A n c, .slice B m d] w fun e w' => ∃ A' c', e = .returned (.slice A' n c') ∧ w'.ownsRow w.heap.size 2 1 (.slice A' n c') n (ints (thenL xs ys)) ∧ Below w.heap.size w w' := by
  have HX := Lib.hid hx
  have HY := Lib.hid hy
  have HA := Lib.hid ha
  have HB := Lib.hid hb
  have HI := Lib.hid hin
  have HTL := Lib.hid (show (thenL xs ys).length = n by rw [thenL_length, hx])
  have st0 := (St.start w).addMade 2
  simp only [List.nil_append] at st0
  have S0 := Lib.hid st0
  clear hx hy ha hb hin st0
  go_enter Try.func66, Try.ntmps66
  go_wp2
  go_loopw [5, 6] (fun u v wr => ∃ (k c7 : Nat) (A7 : Option Addr), k ≤ n ∧ u = .slice A7 k c7 ∧ v = .int .i64 k ∧ St w wr [.own 2 A7 k c7 (ints ((thenL xs ys).take k))]) (fun _ v _ => n - (intOf v).toNat)
  case atStart => exact ⟨0, 0, _, Nat.zero_le _, rfl, rfl, S0.out⟩
  case round =>
    obtain ⟨k, c7, A7, hk, rfl, rfl, st⟩ := hrel
    clear S0
    by_cases hkn : k < n
    · obtain ⟨b1, o1, x, rfl, hgx, hc1⟩ := (HA.out.keep st.below).int (k := k) (by rw [HX.out]; exact hkn)
      obtain ⟨h0, h1⟩ := HI.out x (List.mem_of_getElem? hgx)
      obtain ⟨j, rfl⟩ := Int.eq_ofNat_of_zero_le h0
      obtain ⟨b2, o2, y, rfl, hgy, hc2⟩ := (HB.out.keep st.below).int (k := j) (by rw [HY.out]; omega)
      have HT := Lib.hid (thenL_take hgx hgy)
      have hjm : j < m := by omega
      have hlo := st.lo
      have S1 := Lib.hid st
      clear st hgx hgy
      go_wp2_with (at_builtin; refine wpList_push_at _ rfl (.tmp 14) (.tmp 22) 36 2 rfl Try.underlying36 (.int .i64 0) 8 Try.info2 rfl w.heap.size (.slice A7 k c7) _ _ rfl (S1.out.own (i := 0) rfl) (.int .i64 y) rfl rfl (by omega) (by omega) hlo ?_)
      intro A8 c8 w8 own gr hat
      have own2 : w8.ownsRow w.heap.size 2 1 (.slice A8 (k + 1) c8) (k + 1) (ints ((thenL xs ys).take (k + 1))) := by
        rw [HT.out]
        simpa [ints] using own
      have S2 := Lib.hid (S1.out.push (i := 0) rfl own2 gr hat)
      clear own own2 gr hat S1
      go_wp2
      go_roundw
      case rel => exact ⟨k + 1, c8, A8, by omega, rfl, by go_num, S2.out⟩
      case measure => simp [intOf]; omega
    · obtain rfl : k = n := by omega
      have own := st.own (i := 0) rfl
      rw [List.take_of_length_le (by rw [HTL.out]; exact Nat.le_refl _)] at own
      have hb := st.below
      go_wp2
      go_ret
      exact ⟨A7, c7, rfl, own, hb⟩
set_option maxHeartbeats 1600000 in
theorem hasRow5_any {A B : Option Addr} {n m c d : Nat} {xss : List (List Int)} {ys : List Int} (w : World) (hx : xss.length = n) (ha : RdSS w A xss) (hn : n ≤ 1048576) (hr : ∀ xs ∈ xss, (xs.length : Int) ≤ 1048576) (hy : ys.length = m) (hb : Rd w B (ints ys)) (hin : ys ∈ xss) :
    Calls Try.prog 65 #[.slice A n c, .slice B m d] w fun e w' => e = .returned (.bool true) ∧ Below w.heap.size w w' := by
  have HX := Lib.hid hx
  have HY := Lib.hid hy
  have HA := Lib.hid ha
  have HB := Lib.hid hb
  have HR := Lib.hid hr
  have HI := Lib.hid hin
  have B0 := Lib.hid (Below.refl w.heap.size w)
  clear hx hy ha hb hr hin
  go_enter Try.func65, Try.ntmps65
  go_wp2
  go_loopw [5] (fun v wr => ∃ k : Nat, k ≤ n ∧ v = .int .i64 k ∧ Below w.heap.size w wr ∧ ∀ j, j < k → xss[j]? ≠ some ys) (fun v _ => n - (intOf v).toNat)
  case atStart => exact ⟨0, Nat.zero_le _, rfl, B0.out, fun j hj => by omega⟩
  case round =>
    obtain ⟨k, hk, rfl, bel, hno⟩ := hrel
    by_cases hkn : k < n
    · obtain ⟨b1, o1, A1, c1, xs, rfl, hgx, hcx, hrd, hm1⟩ := (HA.out.keep bel).row (k := k) (by rw [HX.out]; exact hkn)
      have l1 := HR.out xs (List.mem_of_getElem? hgx)
      obtain ⟨n1, hn1⟩ : ∃ n1, xs.length = n1 := ⟨_, rfl⟩
      rw [hn1] at hcx hm1 l1
      have L1 := Lib.hid hn1
      have R1 := Lib.hid hrd
      have R2 := Lib.hid (HB.out.keep bel)
      have BE := Lib.hid bel
      have HG := Lib.hid hgx
      have HNO := Lib.hid hno
      clear hn1 hrd hgx bel hno
      go_wp2_with fail
      refine (likeB (n := n1) (m := m) _ L1.out HY.out R1.out R2.out (by omega)).mono ?_
      rintro e w2 ⟨rfl, bel2⟩
      have BE2 := Lib.hid (BE.out.trans (bel2.mono BE.out.size))
      clear bel2
      by_cases he : xs = ys
      · rw [decide_eq_true he]
        go_wp2
        go_ret
        exact ⟨rfl, BE2.out⟩
      · rw [decide_eq_false he]
        go_wp2
        go_roundw
        case rel => exact ⟨k + 1, by omega, by go_num, BE2.out, fun j hj hjs => by
          rcases Nat.lt_succ_iff_lt_or_eq.1 hj with h | rfl
          · exact HNO.out j h hjs
          · rw [HG.out] at hjs; injection hjs with hjs; exact he hjs⟩
        case measure => simp [intOf]; omega
    · obtain rfl : k = n := by omega
      exfalso
      obtain ⟨j, hj, he⟩ := List.mem_iff_getElem.1 HI.out
      exact hno j (by rw [← HX.out]; exact hj) (by rw [List.getElem?_eq_getElem hj, he])
section
variable {A : Option Addr} {n c : Nat} {bs : List Value}
set_option maxHeartbeats 1600000 in
theorem drawAut (w : World) (hl : bs.length = n) (hr : Rd w A bs) (hu : ∀ v ∈ bs, ∃ x : Nat, v = .int .u8 x ∧ x < 256) (hn : n ≤ 1048576) :
    Calls Try.prog 55 #[.slice A n c] w (RetX w) := by
  have HR := Lib.hid (hr.keep ((Below.refl _ _).alloc (Nat.le_refl _) (.cells #[.slice none 0 0] 27)))
  have HL := Lib.hid hl
  have HU := Lib.hid hu
  have S0 := Lib.hid ((St.start w).addBlk #[.slice none 0 0] 27)
  clear hl hr hu
  go_enter Try.func55, Try.ntmps55
  go_wp2_with fail
  refine (from_any _ HL.out HR.out HU.out hn).mono ?_
  rintro e w1 ⟨g, at', h', rfl, hg, hg1, src, bel⟩
  have HS := Lib.hid (show SrcE w1 g A n c bs from ⟨at', h', src⟩)
  have BEL := Lib.hid bel
  clear src bel
  go_wp2_with fail
  refine (evenP _ HS.out hn).mono ?_
  rintro e w2 ⟨wb, A', N, c', xss, rfl, hl, hN, hR, hc, hc63, d, st⟩
  obtain ⟨tu, sep⟩ := d.fin st
  have S2 := Lib.hid (S0.out.go (Turns.below BEL.out tu BEL.out.size hg))
  have HX := Lib.hid hl
  have HRR := Lib.hid hR
  have SEP := Lib.hid sep
  have hlt : w.heap.size < w1.heap.size := by have := BEL.out.size; simp at this; omega
  have z0 := (S2.out.blk (i := 0) rfl).cell (i := 0) rfl
  have f0 := (S2.out.blk (i := 0) rfl).free 0
  clear hl hR d st tu sep
  go_wp2
  have st4 := S2.out.blkSet (i := 0) rfl 0 (.slice A' N c')
  have y0 := (st4.blk (i := 0) rfl).cell (i := 0) rfl
  exact bodyPost_ret (v := .agg #[.slice A' N c']) (by simp [results, Try.results55, go_sem, y0]) rfl ⟨A', N, c', xss, rfl, HX.out, hN, fun xs hx => by have := HRR.out xs hx; omega, hc, hc63, rds_set SEP.out hlt, st4.below⟩
end
end Go.Proofs.Ytmgoaabeopnopaa
