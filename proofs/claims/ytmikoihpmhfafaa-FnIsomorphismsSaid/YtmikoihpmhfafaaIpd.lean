/- spec.DrawIsomorphismOf (written by gipd.py). -/
import Derived.Test.YtmikoihpmhfafaaEvn
import Derived.Test.YtmikoihpmhfafaaFl2
import Derived.Test.YtmikoihpmhfafaaRin
namespace Go.Proofs.Ytmikoihpmhfafaa
open Go.RowKit

/-- Two drawn maniplexes, or things that are none. -/
def RetXX (w : World) (e : Ending) (w' : World) : Prop :=
  ∃ (A1 : Option Addr) (N1 c1 : Nat) (xss : List (List Int)) (A2 : Option Addr) (N2 c2 : Nat) (yss : List (List Int)), e = .returned (.tuple #[.agg #[.slice A1 N1 c1], .agg #[.slice A2 N2 c2]]) ∧ (xss.length = N1 ∧ N1 ≤ 6 ∧ (∀ xs ∈ xss, (xs.length : Int) ≤ 1048576) ∧ N1 ≤ c1 ∧ c1 ≤ 9223372036854775807) ∧ (yss.length = N2 ∧ N2 ≤ 6 ∧ (∀ xs ∈ yss, (xs.length : Int) ≤ 1048576) ∧ N2 ≤ c2 ∧ c2 ≤ 9223372036854775807) ∧ RdSS w' A1 xss ∧ RdSS w' A2 yss ∧ Below w.heap.size w w'
theorem rds_set2 {w : World} {lo H1 H2 k1 k2 i : Nat} {A : Option Addr} {xss : List (List Int)} {v1 v2 : Value} {Ps : List Pc} (h : Sep w lo Ps) (hi : Ps[i]? = some (.rds A xss)) (hH1 : H1 < lo) (hH2 : H2 < lo) : RdSS ((w.setCell ⟨H1, k1, none⟩ v1).setCell ⟨H2, k2, none⟩ v2) A xss := by
  obtain ⟨F, h1, h2⟩ := h.piece hi
  have h3 := (Pc.rds A xss).kept h1 (w' := (w.setCell ⟨H1, k1, none⟩ v1).setCell ⟨H2, k2, none⟩ v2) fun b hb => by
    have := (h2 b hb).1
    have hne : H1 ≠ b := by omega
    have hne2 : H2 ≠ b := by omega
    simp [World.setCell, Array.getElem?_modify, hne, hne2]
  exact h3.1
theorem ren_sys {n : Nat} {xss : List (List Int)} {p : List Int} (hs : okSys n xss = true) (hp : p.length = n) (hok : okP p = true) : okSys n (renM xss p) = true := by
  have h := sys_parts hs
  refine decide_eq_true ⟨h.1, h.2.1, by rw [renM_length]; exact h.2.2.1, fun xs hx => ?_⟩
  obtain ⟨q, hq, rfl⟩ := List.mem_map.1 hx
  have hr := h.2.2.2 q hq
  exact ⟨by rw [conj_len hp], okP_conj (n := n) (by omega) hp hr.2 hok⟩
theorem St.swap4 {w0 w : World} {a b c d : Pc} (h : St w0 w [a, b, c, d]) : St w0 w [a, b, d, c] :=
  h.pick (fun i => if i = 2 then 3 else if i = 3 then 2 else i) (fun i hi => by simp at hi ⊢; split <;> (try split) <;> omega) (fun i hi => by
    match i, hi with
    | 0, _ => rfl
    | 1, _ => rfl
    | 2, _ => rfl
    | 3, _ => rfl) (fun i j hi hj h => by simp at hi hj ⊢; split <;> split <;> (try split) <;> (try split) <;> omega)
/-- The third piece goes to the end, the fourth one is left out. -/
theorem St.swap5 {w0 w : World} {a b c d e : Pc} (h : St w0 w [a, b, c, d, e]) : St w0 w [a, b, e, c] :=
  h.pick (fun i => if i = 2 then 4 else if i = 3 then 2 else i) (fun i hi => by simp at hi ⊢; split <;> (try split) <;> omega) (fun i hi => by
    match i, hi with
    | 0, _ => rfl
    | 1, _ => rfl
    | 2, _ => rfl
    | 3, _ => rfl) (fun i j hi hj h => by simp at hi hj ⊢; split <;> split <;> (try split) <;> (try split) <;> omega)
section
variable {A : Option Addr} {g n c : Nat} {bs : List Value}
set_option maxRecDepth 100000 in
set_option maxHeartbeats 12800000 in
theorem drawIso (w : World) (hl : bs.length = n) (hr : Rd w A bs) (hu : ∀ v ∈ bs, ∃ x : Nat, v = .int .u8 x ∧ x < 256) (hn : n ≤ 1048576) :
    Calls Try.prog 55 #[.slice A n c] w (RetXX w) := by
  have HR := Lib.hid ((hr.keep ((Below.refl _ _).alloc (Nat.le_refl _) (.cells #[.slice none 0 0] 26))).keep ((Below.refl _ _).alloc (Nat.le_refl _) (.cells #[.slice none 0 0] 26)))
  have HL := Lib.hid hl
  have HU := Lib.hid hu
  have S0 := Lib.hid (show St w _ [.blk w.heap.size #[.slice none 0 0] 26, .blk (w.heap.size + 1) #[.slice none 0 0] 26] from by simpa using ((St.start w).addBlk #[.slice none 0 0] 26).addBlk #[.slice none 0 0] 26)
  clear hl hr hu
  go_enter Try.func55, Try.ntmps55
  go_wp2_with fail
  refine (from_any _ HL.out HR.out HU.out hn).mono ?_
  rintro e w1 ⟨g, at', h', rfl, hg, hg1, src, bel⟩
  have HG := Lib.hid (show w.heap.size + 1 < g by simp at hg; omega)
  have hG : ((w.alloc (.cells #[.slice none 0 0] 26)).alloc (.cells #[.slice none 0 0] 26)).heap.size ≤ g := hg
  have B1 := Lib.hid bel
  have D1 := Lib.hid (Dr.start (show SrcE w1 g A n c bs from ⟨at', h', src⟩))
  have T1 := Lib.hid (St.start w1)
  clear src bel hg hg1
  go_wp2_with fail
  refine (evenP _ (D1.out.now T1.out) hn).mono ?_
  rintro e w2 ⟨wb_, A1, N, c1, xss, rfl, hl, hN, hR, hc, hc63, d_, st_⟩
  obtain ⟨wb2, d2_, st2_⟩ := D1.out.join T1.out d_ st_
  have D2 := Lib.hid d2_
  have T2 := Lib.hid (show St wb2 (w2.alloc (.cells #[.slice A1 N c1] 26)) [.rds A1 xss, .blk w2.heap.size #[.slice A1 N c1] 26] from st2_.addBlk #[.slice A1 N c1] 26)
  have HX := Lib.hid hl
  have HRR := Lib.hid (show ∀ xs ∈ xss, (xs.length : Int) ≤ 1048576 from fun xs hx => by have := hR xs hx; omega)
  clear d_ st_ d2_ st2_ hl hR
  have bx := (T2.out.blk (i := 1) rfl).cell (i := 0) rfl
  obtain ⟨ok, hok⟩ : ∃ ok, okMan xss = ok := ⟨_, rfl⟩
  have HOK := Lib.hid hok
  clear hok
  go_wp2_with fail
  refine (sIs_any _ HX.out (T2.out.rdss (i := 0) rfl) (by omega) HRR.out).mono ?_
  rintro e w3 ⟨rfl, bel⟩
  rw [HOK.out]
  have T3 := Lib.hid (T2.out.go bel)
  clear bel bx T2
  cases ok with
  | false =>
    have Td := Lib.hid (T3.out.go (below_drewN (Below.refl _ _) 1))
    have bxd := (Td.out.blk (i := 1) rfl).cell (i := 0) rfl
    have bxe := (T3.out.blk (i := 1) rfl).cell (i := 0) rfl
    go_wp2
    go_region_law ((first
      | (refine step_call rfl 120 #[.tmp 20] #[78] (by rfl) Try.func120 (by rfl) (by rfl) #[.pointer (some ⟨g, 0, none⟩)] (by first | (simp [Act.eval]; done) | simp [Act.eval, Act.put]) _ (evenP _ (D2.out.now Td.out) hn) ?_
         rintro e w9 ⟨wb_, A2, N2, c2, yss, rfl, hl2, hN2, hR2, hc2, hc263, d_, st_⟩
         refine ⟨_, rfl, ?_⟩
         obtain ⟨wb9, d2_, st2_⟩ := D2.out.join Td.out d_ st_
         have D9 := Lib.hid d2_
         have T9 := Lib.hid (show St wb9 w9 [.rds A1 xss, .blk w2.heap.size #[.slice A1 N c1] 26, .rds A2 yss] from st2_)
         have HX2 := Lib.hid hl2
         have HR2 := Lib.hid (show ∀ xs ∈ yss, (xs.length : Int) ≤ 1048576 from fun xs hx => by have := hR2 xs hx; omega)
         have bx9 := (T9.out.blk (i := 1) rfl).cell (i := 0) rfl
         clear d_ st_ d2_ st2_ hl2 hR2
         have SE := Lib.hid (S0.out.go (Turns.below B1.out (D9.out.fin T9.out).1 B1.out.size hG))
         have z0 := (SE.out.blk (i := 0) rfl).cell (i := 0) rfl
         have f0 := (SE.out.blk (i := 0) rfl).free 0
         have z1 := (SE.out.blk (i := 1) rfl).cell (i := 0) rfl
         have f1 := (SE.out.blk (i := 1) rfl).free 0
         have sa := SE.out.blkSet (i := 0) rfl 0 (.slice A1 N c1)
         have sb := SE.out.blkSet (i := 1) rfl 0 (.slice A2 N2 c2)
         have za := (sa.blk (i := 1) rfl).cell (i := 0) rfl
         have fa := (sa.blk (i := 1) rfl).free 0
         have zb := (sb.blk (i := 0) rfl).cell (i := 0) rfl
         have fb := (sb.blk (i := 0) rfl).free 0
         have hlt := HG.out
         have hlt2 := D9.out.lt)))
    all_goals
      go_wp2
      have s4 := sa.blkSet (i := 1) rfl 0 (.slice A2 N2 c2)
      have s5 := sb.blkSet (i := 0) rfl 0 (.slice A1 N c1)
      have y0 := (s4.blk (i := 0) rfl).cell (i := 0) rfl
      have y1 := (s4.blk (i := 1) rfl).cell (i := 0) rfl
      have x0 := (s5.blk (i := 0) rfl).cell (i := 0) rfl
      have x1 := (s5.blk (i := 1) rfl).cell (i := 0) rfl
      first
      | exact bodyPost_ret (v := .tuple #[.agg #[.slice A1 N c1], .agg #[.slice A2 N2 c2]]) (by simp [results, Try.results55, go_sem, y0, y1]) rfl ⟨A1, N, c1, xss, A2, N2, c2, yss, rfl, ⟨HX.out, hN, HRR.out, hc, hc63⟩, ⟨HX2.out, hN2, HR2.out, hc2, hc263⟩, rds_set2 (T9.out.sep) (i := 0) rfl (by omega) (by omega), rds_set2 (T9.out.sep) (i := 2) rfl (by omega) (by omega), s4.below⟩
      | exact bodyPost_ret (v := .tuple #[.agg #[.slice A1 N c1], .agg #[.slice A2 N2 c2]]) (by simp [results, Try.results55, go_sem, x0, x1]) rfl ⟨A1, N, c1, xss, A2, N2, c2, yss, rfl, ⟨HX.out, hN, HRR.out, hc, hc63⟩, ⟨HX2.out, hN2, HR2.out, hc2, hc263⟩, rds_set2 (T9.out.sep) (i := 0) rfl (by omega) (by omega), rds_set2 (T9.out.sep) (i := 2) rfl (by omega) (by omega), s5.below⟩
  | true =>
    have hman := okMan_iff.1 HOK.out
    have hN5 := hman.r5
    have hN1 := hman.r1
    rw [HX.out] at hN5 hN1
    go_wp2_with fail
    refine (nextE (N := 5) _ (D2.out.now T3.out) hn (by omega)).mono ?_
    rintro e w4 ⟨r, rfl, ⟨h0_, h1_⟩, hs_, tu_⟩
    obtain ⟨wb4, d_, st_⟩ := D2.out.num T3.out hs_ tu_
    have D4 := Lib.hid d_
    have T4 := Lib.hid st_
    clear d_ st_ hs_ tu_ T3 D2
    by_cases e0 : r = 0
    · subst e0
      have Td := Lib.hid (T4.out.go (below_drewN (Below.refl _ _) 1))
      have bxd := (Td.out.blk (i := 1) rfl).cell (i := 0) rfl
      have bxe := (T4.out.blk (i := 1) rfl).cell (i := 0) rfl
      go_wp2
      go_region_law ((first
        | (refine step_call rfl 120 #[.tmp 20] #[78] (by rfl) Try.func120 (by rfl) (by rfl) #[.pointer (some ⟨g, 0, none⟩)] (by first | (simp [Act.eval]; done) | simp [Act.eval, Act.put]) _ (evenP _ (D4.out.now Td.out) hn) ?_
           rintro e w9 ⟨wb_, A2, N2, c2, yss, rfl, hl2, hN2, hR2, hc2, hc263, d_, st_⟩
           refine ⟨_, rfl, ?_⟩
           obtain ⟨wb9, d2_, st2_⟩ := D4.out.join Td.out d_ st_
           have D9 := Lib.hid d2_
           have T9 := Lib.hid (show St wb9 w9 [.rds A1 xss, .blk w2.heap.size #[.slice A1 N c1] 26, .rds A2 yss] from st2_)
           have HX2 := Lib.hid hl2
           have HR2 := Lib.hid (show ∀ xs ∈ yss, (xs.length : Int) ≤ 1048576 from fun xs hx => by have := hR2 xs hx; omega)
           have bx9 := (T9.out.blk (i := 1) rfl).cell (i := 0) rfl
           clear d_ st_ d2_ st2_ hl2 hR2
           have SE := Lib.hid (S0.out.go (Turns.below B1.out (D9.out.fin T9.out).1 B1.out.size hG))
           have z0 := (SE.out.blk (i := 0) rfl).cell (i := 0) rfl
           have f0 := (SE.out.blk (i := 0) rfl).free 0
           have z1 := (SE.out.blk (i := 1) rfl).cell (i := 0) rfl
           have f1 := (SE.out.blk (i := 1) rfl).free 0
           have sa := SE.out.blkSet (i := 0) rfl 0 (.slice A1 N c1)
           have sb := SE.out.blkSet (i := 1) rfl 0 (.slice A2 N2 c2)
           have za := (sa.blk (i := 1) rfl).cell (i := 0) rfl
           have fa := (sa.blk (i := 1) rfl).free 0
           have zb := (sb.blk (i := 0) rfl).cell (i := 0) rfl
           have fb := (sb.blk (i := 0) rfl).free 0
           have hlt := HG.out
           have hlt2 := D9.out.lt)))
      all_goals
        go_wp2
        have s4 := sa.blkSet (i := 1) rfl 0 (.slice A2 N2 c2)
        have s5 := sb.blkSet (i := 0) rfl 0 (.slice A1 N c1)
        have y0 := (s4.blk (i := 0) rfl).cell (i := 0) rfl
        have y1 := (s4.blk (i := 1) rfl).cell (i := 0) rfl
        have x0 := (s5.blk (i := 0) rfl).cell (i := 0) rfl
        have x1 := (s5.blk (i := 1) rfl).cell (i := 0) rfl
        first
        | exact bodyPost_ret (v := .tuple #[.agg #[.slice A1 N c1], .agg #[.slice A2 N2 c2]]) (by simp [results, Try.results55, go_sem, y0, y1]) rfl ⟨A1, N, c1, xss, A2, N2, c2, yss, rfl, ⟨HX.out, hN, HRR.out, hc, hc63⟩, ⟨HX2.out, hN2, HR2.out, hc2, hc263⟩, rds_set2 (T9.out.sep) (i := 0) rfl (by omega) (by omega), rds_set2 (T9.out.sep) (i := 2) rfl (by omega) (by omega), s4.below⟩
        | exact bodyPost_ret (v := .tuple #[.agg #[.slice A1 N c1], .agg #[.slice A2 N2 c2]]) (by simp [results, Try.results55, go_sem, x0, x1]) rfl ⟨A1, N, c1, xss, A2, N2, c2, yss, rfl, ⟨HX.out, hN, HRR.out, hc, hc63⟩, ⟨HX2.out, hN2, HR2.out, hc2, hc263⟩, rds_set2 (T9.out.sep) (i := 0) rfl (by omega) (by omega), rds_set2 (T9.out.sep) (i := 2) rfl (by omega) (by omega), s5.below⟩
    · have n0 : ((r : Int) == 0) = false := by rw [beq_eq_false_iff_ne]; omega
      obtain ⟨b, o, A0, c0, rfl, hc0⟩ := man_row0 hman (T4.out.rdss (i := 0) rfl)
      obtain ⟨m, hm⟩ : ∃ m, flN xss = m := ⟨_, rfl⟩
      have hm2 := hman.f2
      have hm4 := hman.f4
      have hsys := hman.sys
      rw [hm] at hc0 hm2 hm4 hsys
      have HS := Lib.hid hsys
      have HCn := Lib.hid (cell_be hc0 (below_drewN (Below.refl _ _) 1))
      have HCy := Lib.hid (cell_be (cell_al hc0 (.cells #[.slice none 0 0] 26)) (below_drewN (Below.refl _ _) 1))
      have Tdn := Lib.hid (T4.out.go (below_drewN (Below.refl _ _) 1))
      have ty_ := T4.out.addBlk #[.slice none 0 0] 26
      simp only [List.cons_append, List.nil_append] at ty_
      have Tdy := Lib.hid (ty_.go (below_drewN (Below.refl _ _) 1))
      have bx := (T4.out.blk (i := 1) rfl).cell (i := 0) rfl
      have bxy := cell_al bx (.cells #[.slice none 0 0] 26)
      clear hm hsys hc0 ty_ hman
      go_wp2
      go_cut [6] from 22 to 27 (fun u wx => ∃ (Gk : Nat) (A8 : Option Addr) (c8 : Nat) (p : List Int) (wb : World) (v8 : List Value), u = .pointer (some ⟨Gk, 0, none⟩) ∧ p.length = m ∧ okP p = true ∧ Dr g A n c bs w1 wb ∧ St wb wx [.rds (some ⟨b, o, none⟩) xss, .blk w2.heap.size #[.slice (some ⟨b, o, none⟩) N c1] 26, .rows 2 31 A8 N c8 v8 (renM xss p), .blk Gk #[.slice A8 N c8] 26])
      case first =>
        go_region_law ((first
          | (refine step_call rfl 129 #[.tmp 24] #[26] (by rfl) Try.func129 (by rfl) (by rfl) #[.agg #[.slice (some ⟨b, o, none⟩) N c1]] (by first | (simp [Act.eval]; done) | simp [Act.eval, Act.put]) _ (sFlags_bel (n := m) (c0 := c0) (A0 := A0) _ (by omega) HCn.out) ?_
             rintro e w6 ⟨rfl, bel⟩
             refine ⟨_, rfl, ?_⟩
             have T6n := Lib.hid (Tdn.out.go bel)
             have bx6 := (T6n.out.blk (i := 1) rfl).cell (i := 0) rfl
             have t6_ := T6n.out.addBlk #[.slice none 0 0] 26
             simp only [List.cons_append, List.nil_append] at t6_
             have T6z := Lib.hid t6_
             have bx6y := cell_al bx6 (.cells #[.slice none 0 0] 26)
             clear t6_
             clear bel)
          | (refine step_call rfl 129 #[.tmp 24] #[26] (by rfl) Try.func129 (by rfl) (by rfl) #[.agg #[.slice (some ⟨b, o, none⟩) N c1]] (by first | (simp [Act.eval]; done) | simp [Act.eval, Act.put]) _ (sFlags_bel (n := m) (c0 := c0) (A0 := A0) _ (by omega) HCy.out) ?_
             rintro e w6 ⟨rfl, bel⟩
             refine ⟨_, rfl, ?_⟩
             have T6z := Lib.hid (Tdy.out.go bel)
             have bx6 := (T6z.out.blk (i := 1) rfl).cell (i := 0) rfl
             clear bel)
          | (refine step_call rfl 128 #[.tmp 23, .tmp 25] #[78, 2] (by rfl) Try.func128 (by rfl) (by rfl) #[.pointer (some ⟨g, 0, none⟩), .int .i64 m] (by first | (simp [Act.eval]; done) | simp [Act.eval, Act.put]) _ (drawP _ (D4.out.now T6n.out) hn hm4) ?_
             rintro e w7 ⟨wb7, A7, c7, p, rfl, hpl, hpo, d_, st_⟩
             refine ⟨_, rfl, ?_⟩
             obtain ⟨wb8, d2_, st2_⟩ := D4.out.join T6n.out d_ st_
             simp only [List.cons_append, List.nil_append] at st2_
             have D7 := Lib.hid d2_
             have T7n := Lib.hid st2_
             have HPL := Lib.hid hpl
             have HPO := Lib.hid hpo
             have bx7 := (T7n.out.blk (i := 1) rfl).cell (i := 0) rfl
             have t7_ := T7n.out.addBlk #[.slice none 0 0] 26
             simp only [List.cons_append, List.nil_append] at t7_
             have T7z := Lib.hid (t7_.swap4)
             have bx7y := cell_al bx7 (.cells #[.slice none 0 0] 26)
             clear t7_
             clear d_ st_ d2_ st2_ hpl hpo)
          | (refine step_call rfl 128 #[.tmp 23, .tmp 25] #[78, 2] (by rfl) Try.func128 (by rfl) (by rfl) #[.pointer (some ⟨g, 0, none⟩), .int .i64 m] (by first | (simp [Act.eval]; done) | simp [Act.eval, Act.put]) _ (drawP _ (D4.out.now T6z.out) hn hm4) ?_
             rintro e w7 ⟨wb7, A7, c7, p, rfl, hpl, hpo, d_, st_⟩
             refine ⟨_, rfl, ?_⟩
             obtain ⟨wb8, d2_, st2_⟩ := D4.out.join T6z.out d_ st_
             simp only [List.cons_append, List.nil_append] at st2_
             have D7 := Lib.hid d2_
             have T7z := Lib.hid st2_
             have HPL := Lib.hid hpl
             have HPO := Lib.hid hpo
             have bx7 := (T7z.out.blk (i := 1) rfl).cell (i := 0) rfl
             clear d_ st_ d2_ st2_ hpl hpo)
          | (refine step_call rfl 127 #[.tmp 22, .tmp 26] #[26, 31] (by rfl) Try.func127 (by rfl) (by rfl) #[.agg #[.slice (some ⟨b, o, none⟩) N c1], .slice A7 m c7] (by first | (simp [Act.eval]; done) | simp [Act.eval, Act.put]) _ (sren_any _ HX.out (T7n.out.rdss (i := 0) rfl) HS.out HPL.out (own_rd (T7n.out.own (i := 2) rfl)) HPO.out) ?_
             rintro e w8 ⟨A8, c8, rfl, own, bel⟩
             refine ⟨_, rfl, ?_⟩
             rw [show (renM xss p).length = N by rw [renM_length, HX.out]] at own ⊢
             obtain ⟨v8, st8⟩ := T7n.out.addRows bel own (Nat.le_refl _) (Nat.le_refl _)
             simp only [List.cons_append, List.nil_append] at st8
             have st9 := (st8.drop 2).addBlk #[.slice A8 N c8] 26
             simp only [List.eraseIdx_cons_succ, List.eraseIdx_cons_zero, List.cons_append, List.nil_append] at st9
             have T9 := Lib.hid st9
             clear st8 st9 own bel)
          | (refine step_call rfl 127 #[.tmp 22, .tmp 26] #[26, 31] (by rfl) Try.func127 (by rfl) (by rfl) #[.agg #[.slice (some ⟨b, o, none⟩) N c1], .slice A7 m c7] (by first | (simp [Act.eval]; done) | simp [Act.eval, Act.put]) _ (sren_any _ HX.out (T7z.out.rdss (i := 0) rfl) HS.out HPL.out (own_rd (T7z.out.own (i := 3) rfl)) HPO.out) ?_
             rintro e w8 ⟨A8, c8, rfl, own, bel⟩
             refine ⟨_, rfl, ?_⟩
             rw [show (renM xss p).length = N by rw [renM_length, HX.out]] at own ⊢
             obtain ⟨v8, st8⟩ := T7z.out.addRows bel own (Nat.le_refl _) (Nat.le_refl _)
             simp only [List.cons_append, List.nil_append] at st8
             have st9 := st8.swap5
             have T8 := Lib.hid st9
             have z8 := (T8.out.blk (i := 3) rfl).cell (i := 0) rfl
             have f8 := (T8.out.blk (i := 3) rfl).free 0
             have T9 := Lib.hid (T8.out.blkSet (i := 3) rfl 0 (.slice A8 N c8))
             clear st8 st9 own bel)))
        all_goals
          go_wp2
          go_meet
          exact ⟨_, A8, c8, p, wb8, v8, rfl, HPL.out, HPO.out, D7.out, T9.out⟩
      case rest =>
        obtain ⟨Gk, A8, c8, p, wb, v8, rfl, hpl, hpo, d_, st_⟩ := hcut
        obtain ⟨g8, rfl⟩ := own_shape (st_.rows (i := 2) rfl) (show 0 < N by omega)
        have hl8 : (renM xss p).length = N := by rw [renM_length, HX.out]
        have hs8 := ren_sys HS.out hpl hpo
        have hr8 := renM_row (xss := xss) hpl
        obtain ⟨Y, hY⟩ : ∃ Y, renM xss p = Y := ⟨_, rfl⟩
        rw [hY] at st_ hl8 hs8 hr8
        have D8 := Lib.hid d_
        have T8 := Lib.hid st_
        have HL8 := Lib.hid hl8
        have HS8 := Lib.hid hs8
        have HR8 := Lib.hid hr8
        clear d_ st_ hl8 hs8 hr8 hY hpl hpo D4 T4 Tdn Tdy HCn HCy bx bxy
        go_wp2_with fail
        refine (nextE (N := 4) _ (D8.out.now T8.out) hn (by omega)).mono ?_
        rintro e w9 ⟨r2, rfl, ⟨h0_2, h1_2⟩, hs_, tu_⟩
        obtain ⟨wb9, d_, st_⟩ := D8.out.num T8.out hs_ tu_
        have D9 := Lib.hid d_
        have T9 := Lib.hid st_
        clear d_ st_ hs_ tu_ T8 D8
        by_cases e2 : r2 = 0
        · subst e2
          obtain ⟨x0, hx0⟩ : ∃ x0, Y[0]? = some x0 := ⟨_, List.getElem?_eq_getElem (by rw [HL8.out]; omega)⟩
          have hlen := HR8.out x0 (List.mem_of_getElem? hx0)
          obtain ⟨A01, c01, hv0, ow0⟩ := T9.out.rowAt (i := 2) rfl hx0
          rw [hlen] at hv0
          have HC0 := Lib.hid (own_cell (T9.out.rows (i := 2) rfl) hv0)
          clear hx0 hv0 ow0 hlen
          have bxk := (T9.out.blk (i := 3) rfl).cell (i := 0) rfl
          go_wp2_with fail
          refine (sdual_any (n := m) _ HL8.out (ownSS_rd (T9.out.sep.ownSS (i := 2) rfl)) HS8.out HC0.out (by omega) (by omega) (by omega)).mono ?_
          rintro e wD ⟨AD, cD, vD, rfl, st_⟩
          have sn_ := T9.out.join st_
          simp only [List.cons_append, List.nil_append] at sn_
          obtain ⟨md, hd0, hd4, hds⟩ := dual_sys HS8.out (show 0 < m by omega)
          obtain ⟨LD, hLD⟩ : ∃ L, dualL Y m = L := ⟨_, rfl⟩
          have lD : LD.length = N := by rw [← hLD, dualL, repL_len, dualW_len, HL8.out]
          rw [hLD] at sn_ hds
          have RLD := Lib.hid (show ∀ xs ∈ LD, (xs.length : Int) ≤ 1048576 from fun xs hx => by have := ((sys_parts hds).2.2.2 xs hx).1; omega)
          have HLD := Lib.hid lD
          have z_ := (sn_.blk (i := 3) rfl).cell (i := 0) rfl
          have f_ := (sn_.blk (i := 3) rfl).free 0
          have hcp := ownSS_cap (sn_.sep.ownSS (i := 4) rfl)
          have sm_ := (sn_.less (i := 4) rfl (fun F h => rows_rds h)).blkSet (i := 3) rfl 0 (.slice AD N cD)
          have T10 := Lib.hid sm_
          have bk := (T10.out.blk (i := 3) rfl).cell (i := 0) rfl
          have bm := (T10.out.blk (i := 1) rfl).cell (i := 0) rfl
          clear sn_ sm_ st_ hds lD hLD HC0 bxk T9
          have SE := Lib.hid (S0.out.go (Turns.below B1.out (D9.out.fin T10.out).1 B1.out.size hG))
          have z0 := (SE.out.blk (i := 0) rfl).cell (i := 0) rfl
          have f0 := (SE.out.blk (i := 0) rfl).free 0
          have z1 := (SE.out.blk (i := 1) rfl).cell (i := 0) rfl
          have f1 := (SE.out.blk (i := 1) rfl).free 0
          have sa := SE.out.blkSet (i := 0) rfl 0 (.slice (some ⟨b, o, none⟩) N c1)
          have sb := SE.out.blkSet (i := 1) rfl 0 (.slice AD N cD)
          have za := (sa.blk (i := 1) rfl).cell (i := 0) rfl
          have fa := (sa.blk (i := 1) rfl).free 0
          have zb := (sb.blk (i := 0) rfl).cell (i := 0) rfl
          have fb := (sb.blk (i := 0) rfl).free 0
          have hlt := HG.out
          have hlt2 := D9.out.lt
          have hgk := (T10.out.sep.blk (i := 3) rfl).2
          have hgm := (T10.out.sep.blk (i := 1) rfl).2
          have ka := (World.cell?_setCell_far _ ⟨w.heap.size, 0, none⟩ ⟨Gk, 0, none⟩ (.slice (some ⟨b, o, none⟩) N c1) (by show w.heap.size ≠ Gk; omega)).trans bk
          have kb := (World.cell?_setCell_far _ ⟨w.heap.size + 1, 0, none⟩ ⟨Gk, 0, none⟩ (.slice AD N cD) (by show w.heap.size + 1 ≠ Gk; omega)).trans bk
          have ma := (World.cell?_setCell_far _ ⟨w.heap.size, 0, none⟩ ⟨w2.heap.size, 0, none⟩ (.slice (some ⟨b, o, none⟩) N c1) (by show w.heap.size ≠ w2.heap.size; omega)).trans bm
          have mb := (World.cell?_setCell_far _ ⟨w.heap.size + 1, 0, none⟩ ⟨w2.heap.size, 0, none⟩ (.slice AD N cD) (by show w.heap.size + 1 ≠ w2.heap.size; omega)).trans bm
          go_wp2
          go_region
          all_goals
            go_wp2
            have s4 := sa.blkSet (i := 1) rfl 0 (.slice AD N cD)
            have s5 := sb.blkSet (i := 0) rfl 0 (.slice (some ⟨b, o, none⟩) N c1)
            have y0 := (s4.blk (i := 0) rfl).cell (i := 0) rfl
            have y1 := (s4.blk (i := 1) rfl).cell (i := 0) rfl
            have x0 := (s5.blk (i := 0) rfl).cell (i := 0) rfl
            have x1 := (s5.blk (i := 1) rfl).cell (i := 0) rfl
            first
            | exact bodyPost_ret (v := .tuple #[.agg #[.slice (some ⟨b, o, none⟩) N c1], .agg #[.slice AD N cD]]) (by simp [results, Try.results55, go_sem, y0, y1]) rfl ⟨some ⟨b, o, none⟩, N, c1, xss, AD, N, cD, LD, rfl, ⟨HX.out, hN, HRR.out, hc, hc63⟩, ⟨HLD.out, by omega, RLD.out, hcp.1, hcp.2⟩, (rds_set2 (T10.out.sep) (i := 0) rfl (by omega) (by omega)).keep ((Below.refl _ _).drew), (rds_set2 (T10.out.sep) (i := 4) rfl (by omega) (by omega)).keep ((Below.refl _ _).drew), s4.below.drew⟩
            | exact bodyPost_ret (v := .tuple #[.agg #[.slice (some ⟨b, o, none⟩) N c1], .agg #[.slice AD N cD]]) (by simp [results, Try.results55, go_sem, x0, x1]) rfl ⟨some ⟨b, o, none⟩, N, c1, xss, AD, N, cD, LD, rfl, ⟨HX.out, hN, HRR.out, hc, hc63⟩, ⟨HLD.out, by omega, RLD.out, hcp.1, hcp.2⟩, (rds_set2 (T10.out.sep) (i := 0) rfl (by omega) (by omega)).keep ((Below.refl _ _).drew), (rds_set2 (T10.out.sep) (i := 4) rfl (by omega) (by omega)).keep ((Below.refl _ _).drew), s5.below.drew⟩
        · have n2 : ((r2 : Int) == 0) = false := by rw [beq_eq_false_iff_ne]; exact e2
          have hcp := ownSS_cap (T9.out.sep.ownSS (i := 2) rfl)
          have T10 := Lib.hid (T9.out.less (i := 2) rfl (fun F h => rows_rds h))
          have RLD := Lib.hid (show ∀ xs ∈ Y, (xs.length : Int) ≤ 1048576 from fun xs hx => by have := HR8.out xs hx; omega)
          have bk := (T10.out.blk (i := 3) rfl).cell (i := 0) rfl
          have bm := (T10.out.blk (i := 1) rfl).cell (i := 0) rfl
          clear T9
          have SE := Lib.hid (S0.out.go (Turns.below B1.out (D9.out.fin T10.out).1 B1.out.size hG))
          have z0 := (SE.out.blk (i := 0) rfl).cell (i := 0) rfl
          have f0 := (SE.out.blk (i := 0) rfl).free 0
          have z1 := (SE.out.blk (i := 1) rfl).cell (i := 0) rfl
          have f1 := (SE.out.blk (i := 1) rfl).free 0
          have sa := SE.out.blkSet (i := 0) rfl 0 (.slice (some ⟨b, o, none⟩) N c1)
          have sb := SE.out.blkSet (i := 1) rfl 0 (.slice (some ⟨g8, 0, none⟩) N c8)
          have za := (sa.blk (i := 1) rfl).cell (i := 0) rfl
          have fa := (sa.blk (i := 1) rfl).free 0
          have zb := (sb.blk (i := 0) rfl).cell (i := 0) rfl
          have fb := (sb.blk (i := 0) rfl).free 0
          have hlt := HG.out
          have hlt2 := D9.out.lt
          have hgk := (T10.out.sep.blk (i := 3) rfl).2
          have hgm := (T10.out.sep.blk (i := 1) rfl).2
          have ka := (World.cell?_setCell_far _ ⟨w.heap.size, 0, none⟩ ⟨Gk, 0, none⟩ (.slice (some ⟨b, o, none⟩) N c1) (by show w.heap.size ≠ Gk; omega)).trans bk
          have kb := (World.cell?_setCell_far _ ⟨w.heap.size + 1, 0, none⟩ ⟨Gk, 0, none⟩ (.slice (some ⟨g8, 0, none⟩) N c8) (by show w.heap.size + 1 ≠ Gk; omega)).trans bk
          have ma := (World.cell?_setCell_far _ ⟨w.heap.size, 0, none⟩ ⟨w2.heap.size, 0, none⟩ (.slice (some ⟨b, o, none⟩) N c1) (by show w.heap.size ≠ w2.heap.size; omega)).trans bm
          have mb := (World.cell?_setCell_far _ ⟨w.heap.size + 1, 0, none⟩ ⟨w2.heap.size, 0, none⟩ (.slice (some ⟨g8, 0, none⟩) N c8) (by show w.heap.size + 1 ≠ w2.heap.size; omega)).trans bm
          go_wp2
          go_region
          all_goals
            go_wp2
            have s4 := sa.blkSet (i := 1) rfl 0 (.slice (some ⟨g8, 0, none⟩) N c8)
            have s5 := sb.blkSet (i := 0) rfl 0 (.slice (some ⟨b, o, none⟩) N c1)
            have y0 := (s4.blk (i := 0) rfl).cell (i := 0) rfl
            have y1 := (s4.blk (i := 1) rfl).cell (i := 0) rfl
            have x0 := (s5.blk (i := 0) rfl).cell (i := 0) rfl
            have x1 := (s5.blk (i := 1) rfl).cell (i := 0) rfl
            first
            | exact bodyPost_ret (v := .tuple #[.agg #[.slice (some ⟨b, o, none⟩) N c1], .agg #[.slice (some ⟨g8, 0, none⟩) N c8]]) (by simp [results, Try.results55, go_sem, y0, y1]) rfl ⟨some ⟨b, o, none⟩, N, c1, xss, (some ⟨g8, 0, none⟩), N, c8, Y, rfl, ⟨HX.out, hN, HRR.out, hc, hc63⟩, ⟨HL8.out, by omega, RLD.out, hcp.1, hcp.2⟩, (rds_set2 (T10.out.sep) (i := 0) rfl (by omega) (by omega)).keep ((Below.refl _ _).drew), (rds_set2 (T10.out.sep) (i := 2) rfl (by omega) (by omega)).keep ((Below.refl _ _).drew), s4.below.drew⟩
            | exact bodyPost_ret (v := .tuple #[.agg #[.slice (some ⟨b, o, none⟩) N c1], .agg #[.slice (some ⟨g8, 0, none⟩) N c8]]) (by simp [results, Try.results55, go_sem, x0, x1]) rfl ⟨some ⟨b, o, none⟩, N, c1, xss, (some ⟨g8, 0, none⟩), N, c8, Y, rfl, ⟨HX.out, hN, HRR.out, hc, hc63⟩, ⟨HL8.out, by omega, RLD.out, hcp.1, hcp.2⟩, (rds_set2 (T10.out.sep) (i := 0) rfl (by omega) (by omega)).keep ((Below.refl _ _).drew), (rds_set2 (T10.out.sep) (i := 2) rfl (by omega) (by omega)).keep ((Below.refl _ _).drew), s5.below.drew⟩
