import Derived.Test.YtmfddenjemoedaaPm5
import Derived.Test.YtmfddenjemoedaaLk
import Derived.Test.YtmfddenjemoedaaRin
import Derived.Test.YtmfddenjemoedaaFcn
import Derived.Test.YtmfddenjemoedaaL11
import Derived.BigQuiet
namespace Go.Proofs.Ytmfddenjemoedaa
open Go.RowKit

section
variable {A : Option Addr} {n c : Nat} {bs : List Value}
set_option maxHeartbeats 1600000 in
theorem drawLF (w : World) (hl : bs.length = n) (hr : Rd w A bs) (hu : ∀ v ∈ bs, ∃ x : Nat, v = .int .u8 x ∧ x < 256) (hn : n ≤ 1048576) :
    Calls Try.prog 23 #[.slice A n c] w (RetX w) := by
  have HR := Lib.hid (hr.keep ((Below.refl _ _).alloc (Nat.le_refl _) (.cells #[.slice none 0 0] 45)))
  have HL := Lib.hid hl
  have HU := Lib.hid hu
  have S0 := Lib.hid ((St.start w).addBlk #[.slice none 0 0] 45)
  clear hl hr hu
  go_enter Try.func23, Try.ntmps23
  go_wp2_with fail
  refine (from_any _ HL.out HR.out HU.out hn).mono ?_
  rintro e w1 ⟨g, at', h', rfl, hg, hg1, src, bel⟩
  have HS := Lib.hid (show SrcE w1 g A n c bs from ⟨at', h', src⟩)
  have BEL := Lib.hid bel
  clear src bel
  go_wp2_with fail
  refine (spoil2P (most := 40) _ HS.out hn (by omega) (by omega)).mono ?_
  rintro e w2 ⟨wb, A', N, c', xss, rfl, hl, hN, hR, hc, hc63, d, st⟩
  obtain ⟨tu, sep⟩ := d.fin st
  have S2 := Lib.hid (S0.out.go (Turns.below BEL.out tu BEL.out.size hg))
  have HX := Lib.hid hl
  have HRR := Lib.hid hR
  have SEP := Lib.hid sep
  have hlt : w.heap.size < w1.heap.size := by have := BEL.out.size; simp at this; omega
  have z0 := (S2.out.blk (i := 0) rfl).cell (i := 0) rfl
  have f0 := (S2.out.blk (i := 0) rfl).free 0
  clear hl hR d st tu sep
  go_wp2
  have st4 := S2.out.blkSet (i := 0) rfl 0 (.slice A' N c')
  have y0 := (st4.blk (i := 0) rfl).cell (i := 0) rfl
  exact bodyPost_ret (v := .agg #[.slice A' N c']) (by simp [results, Try.results23, go_sem, y0]) rfl ⟨A', N, c', xss, rfl, HX.out, hN, fun xs hx => by have := HRR.out xs hx; omega, hc, hc63, rds_set SEP.out hlt, st4.below⟩
end
theorem same5_any {A B : Option Addr} {c d n m : Nat} {xss yss : List (List Int)} {r : Bool} (w : World) (hx : xss.length = n) (hy : yss.length = m) (ha : RdSS w A xss) (hb : RdSS w B yss) (hn : n ≤ 1048576) (hm : m ≤ 1048576) (hrx : ∀ xs ∈ xss, (xs.length : Int) ≤ 1048576) (hry : ∀ xs ∈ yss, (xs.length : Int) ≤ 1048576) (hr : decide (xss = yss) = r) :
    Calls Try.prog 34 #[.slice A n c, .slice B m d] w fun e w' => e = .returned (.bool r) ∧ Below w.heap.size w w' := by
  have H := Lib.hid (likeRows_any (c := c) (d := d) w hx hy ha hb hn hm hrx hry)
  have HRR := Lib.hid hr
  clear ha hb hx hy hrx hry hr
  go_enter Try.func34, Try.ntmps34
  go_wp2_with fail
  refine H.out.mono ?_
  rintro e w1 ⟨rfl, j, rfl⟩
  rw [HRR.out]
  go_wp2
  go_ret
  exact ⟨rfl, below_drewN (Below.refl _ _) j⟩
theorem lfR_len {xss : List (List Int)} (h : okMan xss = true) : (lfR xss).length = xss.length := by
  unfold lfR
  rw [if_pos h, lstTo_len]
theorem lfR_row {xss : List (List Int)} : ∀ xs ∈ lfR xss, (xs.length : Int) ≤ 1048576 := by
  unfold lfR
  split
  · rename_i h
    intro xs hx
    have hm := okMan_iff.1 h
    have := lstTo_row (fun q hq => hm.all hq) (flN xss - 1) (by have := hm.f2; omega) xs hx
    have := hm.f4
    omega
  · simp
set_option maxHeartbeats 1600000 in
theorem least5_true {A B : Option Addr} {c d n m : Nat} {xss yss : List (List Int)} (w : World) (hx : xss.length = n) (hy : yss.length = m) (ha : RdSS w A xss) (hb : RdSS w B yss) (hn : n ≤ 1048576) (hm : m ≤ 1048576) (hrx : ∀ xs ∈ xss, (xs.length : Int) ≤ 1048576) (hry : ∀ xs ∈ yss, (xs.length : Int) ≤ 1048576) (h1 : okMan xss = true) (h2 : okMan yss = true) (he : lfR xss = lfR yss) :
    Calls Try.prog 36 #[.agg #[.slice A n c], .agg #[.slice B m d]] w fun e w' => e = .returned (.bool true) ∧ Below w.heap.size w w' := by
  have st0 := ((St.start w).addBlk #[.slice A n c] 45).addBlk #[.slice B m d] 45
  simp at st0
  have S0 := Lib.hid st0
  have HA := Lib.hid ha
  have HB := Lib.hid hb
  have HX := Lib.hid hx
  have HY := Lib.hid hy
  have HRX := Lib.hid hrx
  have HRY := Lib.hid hry
  have HE := Lib.hid he
  have M1 := Lib.hid (show manC xss = 0 by simp [manC, h1])
  have M2 := Lib.hid (show manC yss = 0 by simp [manC, h2])
  have L1 := Lib.hid (show (lfR xss).length = n by rw [lfR_len h1, hx])
  clear ha hb hx hy hrx hry he h1 h2 st0
  have hb0 := (S0.out.blk (i := 0) rfl).cell (i := 0) rfl
  have hb1 := (S0.out.blk (i := 1) rfl).cell (i := 0) rfl
  go_enter Try.func36, Try.ntmps36
  go_wp2_with fail
  refine (iLeastForm_any _ HX.out (HA.out.keep S0.out.below) hn HRX.out).mono ?_
  rintro e w1 ⟨A1, c1, rfl, own, bel⟩
  rw [L1.out] at own
  rw [M1.out, L1.out]
  obtain ⟨v1, st_⟩ := S0.out.addRows bel own (Nat.le_refl _) (Nat.le_refl _)
  have S1 := Lib.hid (st_.addBlk #[.slice A1 n c1] 45)
  clear own bel st_ hb0 hb1
  have hb1 := (S1.out.blk (i := 1) rfl).cell (i := 0) rfl
  go_wp2_with fail
  refine (iLeastForm_any _ HY.out (HB.out.keep S1.out.below) hm HRY.out).mono ?_
  rintro e w2 ⟨A2, c2, rfl, own, bel⟩
  rw [← HE.out, L1.out] at own
  rw [← HE.out, M2.out, L1.out]
  obtain ⟨v2, st_⟩ := S1.out.addRows bel own (Nat.le_refl _) (Nat.le_refl _)
  have S2 := Lib.hid (st_.addBlk #[.slice A2 n c2] 45)
  clear own bel st_ hb1
  have hb1 := (S2.out.blk (i := 3) rfl).cell (i := 0) rfl
  have hb2 := (S2.out.blk (i := 5) rfl).cell (i := 0) rfl
  go_wp2_with fail
  refine (like5_any (n := n) (m := n) (xss := lfR xss) (yss := lfR xss) (r := true) _ L1.out L1.out (ownSS_rd (S2.out.sep.ownSS (i := 2) rfl)) (ownSS_rd (S2.out.sep.ownSS (i := 4) rfl)) hn hn lfR_row lfR_row (decide_eq_true rfl)).mono ?_
  rintro e w3 ⟨rfl, bel⟩
  have S3 := Lib.hid (S2.out.go bel)
  clear bel hb1 hb2
  go_wp2
  go_ret
  exact ⟨rfl, S3.out.below⟩
theorem cmpLL_next {L F : List (List Int)} {i : Nat} {x : List Int} (hx : L[i]? = some x) (hy : F[i]? = some x) (h : cmpLL (L.drop i) (F.drop i) ≤ 0) : cmpLL (L.drop (i + 1)) (F.drop (i + 1)) ≤ 0 := by
  rw [cmpLL_at hx hy, cmpL_self, if_pos rfl] at h
  exact h
theorem cmpLL_diff {L F : List (List Int)} {i : Nat} {x y : List Int} (hx : L[i]? = some x) (hy : F[i]? = some y) (hne : y ≠ x) (h : cmpLL (L.drop i) (F.drop i) ≤ 0) : cmpL (x.drop 0) (y.drop 0) < 0 := by
  have h0 : cmpL x y ≠ 0 := fun e => hne ((cmpL_zero x y).1 e).symm
  rw [cmpLL_at hx hy, if_neg h0] at h
  rw [List.drop_zero, List.drop_zero]
  omega
theorem st_pick2 {w0 w : World} {Ps : List Pc} {p q : Pc} {a b : Nat} (h : St w0 w Ps) (ha : Ps[a]? = some p) (hb : Ps[b]? = some q) (hab : a ≠ b) : St w0 w [p, q] := by
  refine h.pick (fun i => if i = 0 then a else b) (fun i hi => ?_) (fun i hi => ?_) (fun i j hi hj he => ?_)
  · have h1 := (List.getElem?_eq_some_iff.1 ha).1
    have h2 := (List.getElem?_eq_some_iff.1 hb).1
    split <;> assumption
  · match i, hi with
    | 0, _ => exact ha.symm
    | 1, _ => exact hb.symm
  · match i, j, hi, hj, he with
    | 0, 0, _, _, he => exact absurd rfl he
    | 1, 1, _, _, he => exact absurd rfl he
    | 0, 1, _, _, _ => exact hab
    | 1, 0, _, _, _ => exact hab.symm
theorem st_swap6 {w0 w : World} {a b c d e f : Pc} (h : St w0 w [a, b, c, d, e, f]) : St w0 w [a, b, c, d, f, e] := St.swap45 h
set_option maxHeartbeats 6400000 in
set_option maxRecDepth 100000 in
theorem law_FnRenumbered {A0 : Option Addr} {c0 n0 : Nat} {bs : List Value} (w : World) (hl : bs.length = n0) (hr : Rd w A0 bs) (hu : ∀ v ∈ bs, ∃ x : Nat, v = .int .u8 x ∧ x < 256) :
    Calls Try.prog 5 #[.slice A0 n0 c0] w fun e w' => e = .returned (.bool true) ∧ Below w.heap.size w w' := by
  have HL0 := Lib.hid hl
  have HR0 := Lib.hid hr
  have HU := Lib.hid hu
  have B0 := Lib.hid (Below.refl w.heap.size w)
  clear hl hr hu
  by_cases hbig : (4096 : Int) < (n0 : Int)
  · go_enter Try.func5, Try.ntmps5
    go_wp2_with fail
    refine (big_any w).mono ?_
    rintro e wz ⟨rfl, rfl⟩
    rw [decide_eq_true (show (4096 : Int) < (n0 : Int) by omega)]
    go_wp2
    go_ret
    exact ⟨rfl, B0.out⟩
  have hn0 : n0 ≤ 1048576 := by omega
  go_enter Try.func5, Try.ntmps5
  go_wp2_with fail
  refine (big_any w).mono ?_
  rintro e wz ⟨rfl, rfl⟩
  rw [decide_eq_false (show ¬ (4096 : Int) < (n0 : Int) by omega)]
  go_wp2_with fail
  refine (drawLF w HL0.out HR0.out HU.out hn0).mono ?_
  rintro e w1 ⟨A1, N, c1, xss, rfl, hx, hN6, hrr, hcap, hc63, hrd, bel1⟩
  have HX := Lib.hid hx
  have HA := Lib.hid hrd
  have HR := Lib.hid hrr
  have B1 := Lib.hid bel1
  have hN : N ≤ 1048576 := by omega
  have S1 := Lib.hid ((St.start w1).addBlk #[.slice A1 N c1] 45)
  have hx0 := hx
  obtain ⟨L, hL⟩ : ∃ L, lfR xss = L := ⟨_, rfl⟩
  obtain ⟨C, hC⟩ : ∃ C, manC xss = C := ⟨_, rfl⟩
  obtain ⟨R, hRL⟩ : ∃ R, L.length = R := ⟨_, rfl⟩
  have HLR := Lib.hid (show ∀ xs ∈ L, (xs.length : Int) ≤ 1048576 by rw [← hL]; exact lfR_row)
  have hRN : R ≤ 1048576 := by
    cases ho : okMan xss
    · have : L = [] := by rw [← hL]; simp [lfR, ho]
      rw [← hRL, this]; simp
    · rw [← hRL, ← hL, lfR_len ho, hx]; omega
  have EL := Lib.hid hL
  have EC := Lib.hid hC
  have ER := Lib.hid hRL
  clear hx hrd hrr bel1 B0 hL hC hRL
  have hb0 := (S1.out.blk (i := 0) rfl).cell (i := 0) rfl
  go_wp2_with fail
  refine (iLeastForm_any _ HX.out (HA.out.keep S1.out.below) hN HR.out).mono ?_
  rintro e w2 ⟨A2, c2, rfl, own, bel⟩
  rw [EL.out, ER.out] at own
  rw [EL.out, EC.out, ER.out]
  obtain ⟨v2, st_⟩ := S1.out.addRows bel own (Nat.le_refl _) (Nat.le_refl _)
  have S2 := Lib.hid (st_.addBlk #[.slice A2 R c2] 45)
  clear bel own st_ S1 hb0
  have hb0 := (S2.out.blk (i := 0) rfl).cell (i := 0) rfl
  go_wp2_with fail
  refine (sLeastForm_any _ HX.out (HA.out.keep S2.out.below) hN HR.out).mono ?_
  rintro e w3 ⟨A3, c3, rfl, own, bel⟩
  rw [EL.out, ER.out] at own
  rw [EL.out, EC.out, ER.out]
  obtain ⟨v3, st_⟩ := S2.out.addRows bel own (Nat.le_refl _) (Nat.le_refl _)
  have S3 := Lib.hid (st_.addBlk #[.slice A3 R c3] 45)
  clear bel own st_ S2 hb0
  have hne : (C != C) = false := by simp
  have hbi := (S3.out.blk (i := 2) rfl).cell (i := 0) rfl
  have hbj := (S3.out.blk (i := 4) rfl).cell (i := 0) rfl
  have RI := Lib.hid (ownSS_rd (S3.out.sep.ownSS (i := 1) rfl))
  have RJ := Lib.hid (ownSS_rd (S3.out.sep.ownSS (i := 3) rfl))
  go_wp2_with fail
  refine (like5_any (n := R) (m := R) (xss := L) (yss := L) (r := true) _ ER.out ER.out RI.out RJ.out hRN hRN HLR.out HLR.out (decide_eq_true rfl)).mono ?_
  rintro e w4 ⟨rfl, bel⟩
  have S4 := Lib.hid ((S3.out.go bel).take 3)
  clear bel S3 RI RJ hbi hbj hne
  cases ho : okMan xss
  · have hC1 : C = 1 := by rw [← EC.out]; simp [manC, ho]
    subst hC1
    go_wp2
    go_ret
    exact ⟨rfl, B1.out.trans (S4.out.below.mono B1.out.size)⟩
  have hC0 : C = 0 := by rw [← EC.out]; simp [manC, ho]
  subst hC0
  have hman := okMan_iff.1 ho
  have hsys := hman.sys
  have hn4 := hman.f4
  have hn2 := hman.f2
  have hpos := hman.pos hx0
  obtain ⟨b, o, A01, c01, rfl, hc0⟩ := man_row0 hman HA.out
  have hRNe : R = N := by rw [← ER.out, ← EL.out, lfR_len ho, hx0]
  subst hRNe
  obtain ⟨n, hn⟩ : ∃ n, flN xss = n := ⟨_, rfl⟩
  have HOK := Lib.hid ho
  have HMAN := Lib.hid hman
  have HN := Lib.hid hn
  have HLn := Lib.hid (show ∀ xs ∈ L, xs.length = n by
    rw [← EL.out, ← hn]
    unfold lfR
    rw [if_pos ho]
    exact lstTo_row (fun q hq => hman.all hq) (flN xss - 1) (by omega))
  rw [hn] at hc0 hn4 hn2 hsys
  have HC0 := Lib.hid hc0
  clear ho hman hsys hc0 hn hx0
  have HRD := Lib.hid (HR0.out.keep (B1.out.trans (S4.out.below.mono B1.out.size)))
  go_wp2_with fail
  refine (roll_any (s := 705) _ HL0.out HRD.out HU.out hn0 (by omega) (by omega)).mono ?_
  rintro e w5 ⟨g, at', h', rfl, hg, hg1, src, bel⟩
  have D5 := Lib.hid (Dr.start (show SrcE w5 g A0 n0 c0 bs from ⟨at', h', src⟩))
  have T5 := Lib.hid (St.start w5)
  have B5 := Lib.hid bel
  clear src bel
  -- region 11
  have Tdn := Lib.hid (T5.out.go (below_drewN (Below.refl _ _) 1))
  have Bdn := Lib.hid (below_drewN B5.out 1)
  have T5y := Lib.hid (T5.out.addBlk #[.slice none 0 0] 45)
  have Tdy := Lib.hid (T5y.out.go (below_drewN (Below.refl _ _) 1))
  have Bdy := Lib.hid (below_drewN (B5.out.alloc B5.out.size (.cells #[.slice none 0 0] 45)) 1)
  have hbm := ((S4.out.go B5.out).blk (i := 0) rfl).cell (i := 0) rfl
  have hbmy := cell_al hbm (.cells #[.slice none 0 0] 45)
  have HCn := Lib.hid (cell_be HC0.out (S4.out.go Bdn.out).below)
  have HCy := Lib.hid (cell_be HC0.out (S4.out.go Bdy.out).below)
  go_wp2
  go_cut [9, 10] from 60 to 68 (fun u v wx => ∃ (bx c8 : Nat) (A8 : Option Addr) (Q : List Int) (wb : World) (v8 : List Value), u = .pointer (some ⟨bx, 0, none⟩) ∧ v = .int .i64 (rnC xss Q) ∧ Q.length = n ∧ Passed n Q ∧ Dr g A0 n0 c0 bs w5 wb ∧ St wb wx [.rows 2 24 A8 (rnR xss Q).length c8 v8 (rnR xss Q), .blk bx #[.slice A8 (rnR xss Q).length c8] 45] ∧ Below w4.heap.size w4 wx)
  case first =>
    go_region_law ((first
      | (refine step_call rfl 28 #[.tmp 63] #[45] (by rfl) Try.func28 (by rfl) (by rfl) #[.agg #[.slice (some ⟨b, o, none⟩) R c1]] (by first | (simp [Act.eval]; done) | simp [Act.eval, Act.put]) _ (flags5_any (n := n) (c0 := c01) (A0 := A01) _ hpos HCn.out) ?_
         rintro e w6 ⟨rfl, bel⟩
         refine ⟨_, rfl, ?_⟩
         have T6n := Lib.hid (Tdn.out.go bel)
         have B6 := Lib.hid (Bdn.out.trans (bel.mono Bdn.out.size))
         have T6y := Lib.hid (T6n.out.addBlk #[.slice none 0 0] 45)
         have B6y := Lib.hid (B6.out.alloc B6.out.size (.cells #[.slice none 0 0] 45))
         have hbm6 := ((S4.out.go B6.out).blk (i := 0) rfl).cell (i := 0) rfl
         have hbm6y := cell_al hbm6 (.cells #[.slice none 0 0] 45)
         clear bel)
      | (refine step_call rfl 28 #[.tmp 63] #[45] (by rfl) Try.func28 (by rfl) (by rfl) #[.agg #[.slice (some ⟨b, o, none⟩) R c1]] (by first | (simp [Act.eval]; done) | simp [Act.eval, Act.put]) _ (flags5_any (n := n) (c0 := c01) (A0 := A01) _ hpos HCy.out) ?_
         rintro e w6 ⟨rfl, bel⟩
         refine ⟨_, rfl, ?_⟩
         have T6z := Lib.hid (Tdy.out.go bel)
         have B6 := Lib.hid (Bdy.out.trans (bel.mono Bdy.out.size))
         have hbm6 := ((S4.out.go B6.out).blk (i := 0) rfl).cell (i := 0) rfl
         clear bel)
      | (refine step_call rfl 12 #[.tmp 62, .tmp 64] #[31, 2] (by rfl) Try.func12 (by rfl) (by rfl) #[.pointer (some ⟨g, 0, none⟩), .int .i64 (n : Int)] (by first | (simp [Act.eval]; done) | simp [Act.eval, Act.put]) _ (perm5P (N := n) _ (D5.out.now T6n.out) hn0 hn4) ?_
         rintro e w7 ⟨wb7, A7, c7, Q, rfl, hQl, hQp, d_, st_⟩
         refine ⟨_, rfl, ?_⟩
         obtain ⟨wb7', d2_, st2_⟩ := D5.out.join T6n.out d_ st_
         have B7 := Lib.hid (Turns.below B6.out (d_.fin st_).1 B6.out.size hg)
         have D7 := Lib.hid d2_
         have T7n := Lib.hid st2_
         have HR7 := Lib.hid (own_rd (T7n.out.own (i := 0) rfl))
         have T7y := Lib.hid (T7n.out.addBlk #[.slice none 0 0] 45)
         have HR7y := Lib.hid (own_rd (T7y.out.own (i := 0) rfl))
         have B7y := Lib.hid (B7.out.alloc B7.out.size (.cells #[.slice none 0 0] 45))
         have hbm7 := ((S4.out.go B7.out).blk (i := 0) rfl).cell (i := 0) rfl
         have hbm7y := cell_al hbm7 (.cells #[.slice none 0 0] 45)
         have HQL := Lib.hid hQl
         have HQP := Lib.hid hQp
         clear d_ st_ d2_ st2_ hQl hQp)
      | (refine step_call rfl 12 #[.tmp 62, .tmp 64] #[31, 2] (by rfl) Try.func12 (by rfl) (by rfl) #[.pointer (some ⟨g, 0, none⟩), .int .i64 (n : Int)] (by first | (simp [Act.eval]; done) | simp [Act.eval, Act.put]) _ (perm5P (N := n) _ (D5.out.now T6y.out) hn0 hn4) ?_
         rintro e w7 ⟨wb7, A7, c7, Q, rfl, hQl, hQp, d_, st_⟩
         refine ⟨_, rfl, ?_⟩
         obtain ⟨wb7', d2_, st2_⟩ := D5.out.join T6y.out d_ st_
         have B7 := Lib.hid (Turns.below B6y.out (d_.fin st_).1 B6y.out.size hg)
         have D7 := Lib.hid d2_
         have T7z := Lib.hid st2_
         have HR7 := Lib.hid (own_rd (T7z.out.own (i := 1) rfl))
         have hbm7 := ((S4.out.go B7.out).blk (i := 0) rfl).cell (i := 0) rfl
         have HQL := Lib.hid hQl
         have HQP := Lib.hid hQp
         clear d_ st_ d2_ st2_ hQl hQp)
      | (refine step_call rfl 12 #[.tmp 62, .tmp 64] #[31, 2] (by rfl) Try.func12 (by rfl) (by rfl) #[.pointer (some ⟨g, 0, none⟩), .int .i64 (n : Int)] (by first | (simp [Act.eval]; done) | simp [Act.eval, Act.put]) _ (perm5P (N := n) _ (D5.out.now T6z.out) hn0 hn4) ?_
         rintro e w7 ⟨wb7, A7, c7, Q, rfl, hQl, hQp, d_, st_⟩
         refine ⟨_, rfl, ?_⟩
         obtain ⟨wb7', d2_, st2_⟩ := D5.out.join T6z.out d_ st_
         have B7 := Lib.hid (Turns.below B6.out (d_.fin st_).1 B6.out.size hg)
         have D7 := Lib.hid d2_
         have T7z := Lib.hid st2_
         have HR7 := Lib.hid (own_rd (T7z.out.own (i := 1) rfl))
         have hbm7 := ((S4.out.go B7.out).blk (i := 0) rfl).cell (i := 0) rfl
         have HQL := Lib.hid hQl
         have HQP := Lib.hid hQp
         clear d_ st_ d2_ st2_ hQl hQp)
      | (refine step_call rfl 27 #[.tmp 61, .tmp 65] #[45, 24] (by rfl) Try.func27 (by rfl) (by rfl) #[.agg #[.slice (some ⟨b, o, none⟩) R c1], .slice A7 n c7] (by first | (simp [Act.eval]; done) | simp [Act.eval, Act.put]) _ (iRenumberFlags_any _ HX.out (HA.out.keep (S4.out.go B7.out).below) hN HR.out HQL.out HR7.out (by omega)) ?_
         rintro e w8 ⟨A8, c8, rfl, own, bel⟩
         refine ⟨_, rfl, ?_⟩
         have B8 := Lib.hid (B7.out.trans (bel.mono B7.out.size))
         first
           | (obtain ⟨v8, st8⟩ := T7z.out.addRows bel own (Nat.le_refl _) (Nat.le_refl _)
              have T8z := Lib.hid st8
              have z0 := (st8.blk (i := 0) rfl).cell (i := 0) rfl
              have f0 := (st8.blk (i := 0) rfl).free 0
              clear st8)
           | (obtain ⟨v8, st8⟩ := T7n.out.addRows bel own (Nat.le_refl _) (Nat.le_refl _)
              have T8n := Lib.hid (st8.addBlk #[.slice none 0 0] 45)
              have z0 := (T8n.out.blk (i := 2) rfl).cell (i := 0) rfl
              have f0 := (T8n.out.blk (i := 2) rfl).free 0
              have T8m := Lib.hid (st8.addBlk #[.slice A8 (rnR xss Q).length c8] 45)
              clear st8)
         clear own bel)
      | (refine step_call rfl 27 #[.tmp 61, .tmp 65] #[45, 24] (by rfl) Try.func27 (by rfl) (by rfl) #[.agg #[.slice (some ⟨b, o, none⟩) R c1], .slice A7 n c7] (by first | (simp [Act.eval]; done) | simp [Act.eval, Act.put]) _ (iRenumberFlags_any _ HX.out (HA.out.keep (S4.out.go B7y.out).below) hN HR.out HQL.out HR7y.out (by omega)) ?_
         rintro e w8 ⟨A8, c8, rfl, own, bel⟩
         refine ⟨_, rfl, ?_⟩
         have B8 := Lib.hid (B7y.out.trans (bel.mono B7y.out.size))
         obtain ⟨v8, st8⟩ := T7y.out.addRows bel own (Nat.le_refl _) (Nat.le_refl _)
         have T8y := Lib.hid st8
         have z0 := (st8.blk (i := 1) rfl).cell (i := 0) rfl
         have f0 := (st8.blk (i := 1) rfl).free 0
         clear st8 own bel)))
    all_goals
      go_wp2
      go_meet
      have h5 := B5.out.size
      have h6 := B6.out.size
      have h7 := B7.out.size
      have h8 := B8.out.size
      (try simp at h5); (try simp at h6); (try simp at h7); (try simp at h8)
      first
        | exact ⟨_, c8, A8, Q, _, v8, rfl, rfl, HQL.out, HQP.out, D7.out, st_pick2 (T8z.out.blkSet (i := 0) rfl 0 (.slice A8 (rnR xss Q).length c8)) (a := 2) (b := 0) rfl rfl (by decide), B8.out.setCell (p := ⟨_, 0, none⟩) (by simp; omega) _⟩
        | exact ⟨_, c8, A8, Q, _, v8, rfl, rfl, HQL.out, HQP.out, D7.out, st_pick2 (T8y.out.blkSet (i := 1) rfl 0 (.slice A8 (rnR xss Q).length c8)) (a := 2) (b := 1) rfl rfl (by decide), B8.out.setCell (p := ⟨_, 0, none⟩) (by simp; omega) _⟩
        | exact ⟨_, c8, A8, Q, _, v8, rfl, rfl, HQL.out, HQP.out, D7.out, st_pick2 T8m.out (a := 1) (b := 2) rfl rfl (by decide), B8.out.alloc B8.out.size _⟩
        | exact ⟨_, c8, A8, Q, _, v8, rfl, rfl, HQL.out, HQP.out, D7.out, st_pick2 (T8n.out.blkSet (i := 2) rfl 0 (.slice A8 (rnR xss Q).length c8)) (a := 1) (b := 2) rfl rfl (by decide), (B8.out.alloc B8.out.size _).setCell (p := ⟨_, 0, none⟩) (by simp; omega) _⟩
  case rest =>
    obtain ⟨bx, c8, A8, Q, wb8, v8, rfl, rfl, hQl, hQp, d_, st_, b_⟩ := hcut
    have hQo := passed_okP hQp hQl hn4
    have hman := HMAN.out
    have hQl' : Q.length = flN xss := by rw [HN.out, hQl]
    have hsame := ren_same hman hQl' hQo
    have e1 : rnR xss Q = renM xss Q ∧ rnC xss Q = 0 := by simp [rnR, rnC, HOK.out, hQl', hQo]
    obtain ⟨K, hK⟩ : ∃ K, renM xss Q = K := ⟨_, rfl⟩
    rw [hK] at e1 hsame
    have hKl : K.length = R := by rw [hsame.len, HX.out]
    rw [e1.1, hKl] at st_
    rw [e1.2]
    have T8 := Lib.hid st_
    have D8 := Lib.hid d_
    have B8 := Lib.hid b_
    have SK := Lib.hid hsame
    have KL := Lib.hid hKl
    have KR := Lib.hid (show ∀ xs ∈ K, (xs.length : Int) ≤ 1048576 from fun xs hx => by
      have := (hsame.man.row xs hx).1
      have := hsame.man.f4
      omega)
    have KM := Lib.hid (show manC K = 0 by simp [manC, okMan_true hsame.man])
    clear st_ d_ b_ hsame hKl hK e1 hQl hQp hQo hQl' hman T5 T5y Tdn Tdy Bdn Bdy hbm hbmy HCn HCy D5 B5
    have hbk := (T8.out.blk (i := 1) rfl).cell (i := 0) rfl
    go_wp2_with fail
    refine (iLeastForm_any _ KL.out (ownSS_rd (T8.out.sep.ownSS (i := 0) rfl)) hN KR.out).mono ?_
    rintro e w9 ⟨A9, c9, rfl, own, bel⟩
    rw [SK.out.lf, EL.out, ER.out] at own
    rw [SK.out.lf, EL.out, ER.out, KM.out]
    obtain ⟨v9, st_⟩ := T8.out.addRows bel own (Nat.le_refl _) (Nat.le_refl _)
    have T9 := Lib.hid (st_.addBlk #[.slice A9 R c9] 45)
    have B9 := Lib.hid ((B8.out.trans (bel.mono B8.out.size)).alloc (B8.out.trans (bel.mono B8.out.size)).size (.cells #[.slice A9 R c9] 45))
    clear own bel st_ T8 B8 hbk
    -- region 13
    have hbm := ((S4.out.go B9.out).blk (i := 0) rfl).cell (i := 0) rfl
    go_wp2
    obtain ⟨W9, hW9⟩ : ∃ W, w9.alloc (.cells #[.slice A9 R c9] 45) = W := ⟨_, rfl⟩
    rw [hW9] at T9 B9 hbm ⊢
    clear hW9
    have Tdn := Lib.hid (T9.out.go (below_drewN (Below.refl _ _) 1))
    have Bdn := Lib.hid (below_drewN B9.out 1)
    have T9y := Lib.hid (T9.out.addBlk #[.slice none 0 0] 45)
    have Tdy := Lib.hid (T9y.out.go (below_drewN (Below.refl _ _) 1))
    have Bdy := Lib.hid (below_drewN (B9.out.alloc B9.out.size (.cells #[.slice none 0 0] 45)) 1)
    have hbmy := cell_al hbm (.cells #[.slice none 0 0] 45)
    have HCn := Lib.hid (cell_be HC0.out (S4.out.go Bdn.out).below)
    have HCy := Lib.hid (cell_be HC0.out (S4.out.go Bdy.out).below)
    go_cut [13, 14] from 74 to 82 (fun u v wx => ∃ (by_ cF p : Nat) (AF : Option Addr) (wb : World) (vF : List Value), u = .pointer (some ⟨by_, 0, none⟩) ∧ v = .int .i64 (ffC xss (p : Int)) ∧ p < n ∧ St wb wx [.rows 2 24 A8 R c8 v8 K, .blk bx #[.slice A8 R c8] 45, .rows 2 24 A9 R c9 v9 L, .blk w9.heap.size #[.slice A9 R c9] 45, .rows 2 24 AF (ffR xss (p : Int)).length cF vF (ffR xss (p : Int)), .blk by_ #[.slice AF (ffR xss (p : Int)).length cF] 45] ∧ Below w4.heap.size w4 wx)
    case first =>
      go_region_law ((first
        | (refine step_call rfl 28 #[.tmp 77] #[45] (by rfl) Try.func28 (by rfl) (by rfl) #[.agg #[.slice (some ⟨b, o, none⟩) R c1]] (by first | (simp [Act.eval]; done) | simp [Act.eval, Act.put]) _ (flags5_any (n := n) (c0 := c01) (A0 := A01) _ hpos HCn.out) ?_
           rintro e w6 ⟨rfl, bel⟩
           refine ⟨_, rfl, ?_⟩
           have T6n := Lib.hid (Tdn.out.go bel)
           have B6 := Lib.hid (Bdn.out.trans (bel.mono Bdn.out.size))
           have T6y := Lib.hid (T6n.out.addBlk #[.slice none 0 0] 45)
           have B6y := Lib.hid (B6.out.alloc B6.out.size (.cells #[.slice none 0 0] 45))
           have hbm6 := ((S4.out.go B6.out).blk (i := 0) rfl).cell (i := 0) rfl
           have hbm6y := cell_al hbm6 (.cells #[.slice none 0 0] 45)
           clear bel)
        | (refine step_call rfl 28 #[.tmp 77] #[45] (by rfl) Try.func28 (by rfl) (by rfl) #[.agg #[.slice (some ⟨b, o, none⟩) R c1]] (by first | (simp [Act.eval]; done) | simp [Act.eval, Act.put]) _ (flags5_any (n := n) (c0 := c01) (A0 := A01) _ hpos HCy.out) ?_
           rintro e w6 ⟨rfl, bel⟩
           refine ⟨_, rfl, ?_⟩
           have T6z := Lib.hid (Tdy.out.go bel)
           have B6 := Lib.hid (Bdy.out.trans (bel.mono Bdy.out.size))
           have hbm6 := ((S4.out.go B6.out).blk (i := 0) rfl).cell (i := 0) rfl
           clear bel)
        | (refine step_call rfl 19 #[.tmp 76, .tmp 78] #[31, 2] (by rfl) Try.func19 (by rfl) (by rfl) #[.pointer (some ⟨g, 0, none⟩), .int .i64 (n : Int)] (by first | (simp [Act.eval]; done) | simp [Act.eval, Act.put]) _ (belowE (N := (n : Int)) _ (D8.out.now T6n.out) hn0 (by omega)) ?_
           rintro e w7 ⟨r, rfl, ⟨h0p, h1p⟩, hs_, tu_⟩
           refine ⟨_, rfl, ?_⟩
           obtain ⟨p, rfl⟩ := Int.eq_ofNat_of_zero_le h0p
           have hpn : p < n := by omega
           obtain ⟨wb7, d2_, st2_⟩ := D8.out.num T6n.out hs_ tu_
           have B7 := Lib.hid (Turns.below B6.out tu_ B6.out.size hg)
           have T7n := Lib.hid st2_
           have T7y := Lib.hid (T7n.out.addBlk #[.slice none 0 0] 45)
           have B7y := Lib.hid (B7.out.alloc B7.out.size (.cells #[.slice none 0 0] 45))
           have hbm7 := ((S4.out.go B7.out).blk (i := 0) rfl).cell (i := 0) rfl
           have hbm7y := cell_al hbm7 (.cells #[.slice none 0 0] 45)
           clear d2_ st2_ hs_ tu_)
        | (refine step_call rfl 19 #[.tmp 76, .tmp 78] #[31, 2] (by rfl) Try.func19 (by rfl) (by rfl) #[.pointer (some ⟨g, 0, none⟩), .int .i64 (n : Int)] (by first | (simp [Act.eval]; done) | simp [Act.eval, Act.put]) _ (belowE (N := (n : Int)) _ (D8.out.now T6y.out) hn0 (by omega)) ?_
           rintro e w7 ⟨r, rfl, ⟨h0p, h1p⟩, hs_, tu_⟩
           refine ⟨_, rfl, ?_⟩
           obtain ⟨p, rfl⟩ := Int.eq_ofNat_of_zero_le h0p
           have hpn : p < n := by omega
           obtain ⟨wb7, d2_, st2_⟩ := D8.out.num T6y.out hs_ tu_
           have B7 := Lib.hid (Turns.below B6y.out tu_ B6y.out.size hg)
           have T7z := Lib.hid st2_
           have hbm7 := ((S4.out.go B7.out).blk (i := 0) rfl).cell (i := 0) rfl
           clear d2_ st2_ hs_ tu_)
        | (refine step_call rfl 19 #[.tmp 76, .tmp 78] #[31, 2] (by rfl) Try.func19 (by rfl) (by rfl) #[.pointer (some ⟨g, 0, none⟩), .int .i64 (n : Int)] (by first | (simp [Act.eval]; done) | simp [Act.eval, Act.put]) _ (belowE (N := (n : Int)) _ (D8.out.now T6z.out) hn0 (by omega)) ?_
           rintro e w7 ⟨r, rfl, ⟨h0p, h1p⟩, hs_, tu_⟩
           refine ⟨_, rfl, ?_⟩
           obtain ⟨p, rfl⟩ := Int.eq_ofNat_of_zero_le h0p
           have hpn : p < n := by omega
           obtain ⟨wb7, d2_, st2_⟩ := D8.out.num T6z.out hs_ tu_
           have B7 := Lib.hid (Turns.below B6.out tu_ B6.out.size hg)
           have T7z := Lib.hid st2_
           have hbm7 := ((S4.out.go B7.out).blk (i := 0) rfl).cell (i := 0) rfl
           clear d2_ st2_ hs_ tu_)
        | (refine step_call rfl 29 #[.tmp 75, .tmp 79] #[45, 2] (by rfl) Try.func29 (by rfl) (by rfl) #[.agg #[.slice (some ⟨b, o, none⟩) R c1], .int .i64 (p : Int)] (by first | (simp [Act.eval]; done) | simp [Act.eval, Act.put]) _ (iFormFrom_any (p : Int) _ HX.out (HA.out.keep (S4.out.go B7.out).below) hN HR.out) ?_
           rintro e w8 ⟨AF, cF, rfl, own, bel⟩
           refine ⟨_, rfl, ?_⟩
           have B8 := Lib.hid (B7.out.trans (bel.mono B7.out.size))
           first
             | (obtain ⟨vF, st8⟩ := T7z.out.addRows bel own (Nat.le_refl _) (Nat.le_refl _)
                have T8z := Lib.hid st8
                have z0 := (st8.blk (i := 4) rfl).cell (i := 0) rfl
                have f0 := (st8.blk (i := 4) rfl).free 0
                clear st8)
             | (obtain ⟨vF, st8⟩ := T7n.out.addRows bel own (Nat.le_refl _) (Nat.le_refl _)
                have T8n := Lib.hid (st8.addBlk #[.slice none 0 0] 45)
                have z0 := (T8n.out.blk (i := 5) rfl).cell (i := 0) rfl
                have f0 := (T8n.out.blk (i := 5) rfl).free 0
                have T8m := Lib.hid (st8.addBlk #[.slice AF (ffR xss (p : Int)).length cF] 45)
                clear st8)
           clear own bel)
        | (refine step_call rfl 29 #[.tmp 75, .tmp 79] #[45, 2] (by rfl) Try.func29 (by rfl) (by rfl) #[.agg #[.slice (some ⟨b, o, none⟩) R c1], .int .i64 (p : Int)] (by first | (simp [Act.eval]; done) | simp [Act.eval, Act.put]) _ (iFormFrom_any (p : Int) _ HX.out (HA.out.keep (S4.out.go B7y.out).below) hN HR.out) ?_
           rintro e w8 ⟨AF, cF, rfl, own, bel⟩
           refine ⟨_, rfl, ?_⟩
           have B8 := Lib.hid (B7y.out.trans (bel.mono B7y.out.size))
           obtain ⟨vF, st8⟩ := T7y.out.addRows bel own (Nat.le_refl _) (Nat.le_refl _)
           have T8z := Lib.hid st8
           have z0 := (st8.blk (i := 4) rfl).cell (i := 0) rfl
           have f0 := (st8.blk (i := 4) rfl).free 0
           clear st8 own bel)))
      all_goals
        go_wp2
        go_meet
        have h5 := B9.out.size
        have h6 := B6.out.size
        have h7 := B7.out.size
        have h8 := B8.out.size
        (try simp at h5); (try simp at h6); (try simp at h7); (try simp at h8)
        first
          | exact ⟨_, cF, p, AF, _, vF, rfl, rfl, hpn, st_swap6 (T8z.out.blkSet (i := 4) rfl 0 (.slice AF (ffR xss (p : Int)).length cF)), B8.out.setCell (p := ⟨_, 0, none⟩) (by simp; omega) _⟩
          | exact ⟨_, cF, p, AF, _, vF, rfl, rfl, hpn, T8m.out, B8.out.alloc B8.out.size _⟩
          | exact ⟨_, cF, p, AF, _, vF, rfl, rfl, hpn, T8n.out.blkSet (i := 5) rfl 0 (.slice AF (ffR xss (p : Int)).length cF), (B8.out.alloc B8.out.size _).setCell (p := ⟨_, 0, none⟩) (by simp; omega) _⟩
    case rest =>
      obtain ⟨by_, cF, p, AF, wbF, vF, rfl, rfl, hpn, st_, b_⟩ := hcut
      have hman := HMAN.out
      have hpF : p < flN xss := by rw [HN.out]; exact hpn
      have hsF := frm_same hman hpF
      have hle := least_le hman hpF
      rw [HN.out] at hsF hle
      rw [EL.out] at hle
      have e1 : ffR xss (p : Int) = frmL xss n p ∧ ffC xss (p : Int) = 0 := by
        have h1 : flagB n (p : Int) = true := by simp [flagB]; omega
        simp [ffR, ffC, HOK.out, h1, HN.out]
      obtain ⟨FF, hFF⟩ : ∃ F, frmL xss n p = F := ⟨_, rfl⟩
      rw [hFF] at e1 hsF hle
      have hFl : FF.length = R := by rw [hsF.len, HX.out]
      rw [e1.1, hFl] at st_
      rw [e1.2]
      have hFn : ∀ xs ∈ FF, xs.length = n := fun xs hx => by rw [(hsF.man.row xs hx).1, hsF.fl, HN.out]
      have T13 := Lib.hid st_
      have B13 := Lib.hid b_
      have SF := Lib.hid hsF
      have FL := Lib.hid hFl
      have FN := Lib.hid hFn
      have FR := Lib.hid (show ∀ xs ∈ FF, (xs.length : Int) ≤ 1048576 from fun xs hx => by have := hFn xs hx; omega)
      have HLE := Lib.hid hle
      obtain ⟨Cn, hCn⟩ : ∃ C, fcR xss = C := ⟨_, rfl⟩
      obtain ⟨q, hq⟩ : ∃ q, Cn.length = q := ⟨_, rfl⟩
      obtain ⟨Ty, hTy⟩ : ∃ C, tyR xss = C := ⟨_, rfl⟩
      obtain ⟨m, hm⟩ : ∃ q, Ty.length = q := ⟨_, rfl⟩
      obtain ⟨io, hio⟩ : ∃ C, isoR xss = C := ⟨_, rfl⟩
      obtain ⟨di, hdi⟩ : ∃ C, diR xss = C := ⟨_, rfl⟩
      have hqR : q ≤ 1048576 := by
        rw [← hq, ← hCn]
        unfold fcR
        rw [if_pos HOK.out]
        simp [cntTo, HX.out]
        omega
      have hmR : m ≤ 1048576 ∧ ∀ xs ∈ Ty, (xs.length : Int) ≤ 1048576 := by
        rw [← hm, ← hTy]
        unfold tyR
        rw [if_pos HOK.out, tyL_len, HX.out, HN.out]
        refine ⟨by omega, fun xs hx => ?_⟩
        unfold tyL at hx
        obtain ⟨j, _, rfl⟩ := List.mem_map.1 hx
        have : (polL ((xss.drop j).take 2) n).length ≤ n := by
          unfold polL
          rw [sortL_length]
          exact ddTo_len _ _
        omega
      have hm1 := hmR.1
      have TYR := Lib.hid hmR.2
      have EM0 := Lib.hid (show manC xss = 0 from EC.out)
      have ECn := Lib.hid hCn
      have EQ := Lib.hid hq
      have ETy := Lib.hid hTy
      have EMm := Lib.hid hm
      have EIo := Lib.hid hio
      have EDi := Lib.hid hdi
      clear st_ b_ hman hpF hsF hle e1 hFF hFl hFn hCn hq hTy hm hio hdi hmR T9 B9 hbm hbmy HCn HCy Tdn Bdn T9y Tdy Bdy D8
      obtain ⟨hck, hck2⟩ := ownSS_cap (T13.out.sep.ownSS (i := 0) rfl)
      have hbm := ((S4.out.go B13.out).blk (i := 0) rfl).cell (i := 0) rfl
      go_wp2_with fail
      refine (iFaceCounts_any _ HX.out (HA.out.keep (S4.out.go B13.out).below) hN HR.out hcap hc63).mono ?_
      rintro e w14 ⟨A14, c14, rfl, own, bel⟩
      rw [ECn.out, EQ.out] at own
      rw [ECn.out, EM0.out, EQ.out]
      have T14 := Lib.hid (T13.out.addOwn bel own (Nat.le_refl _))
      have B14 := Lib.hid (B13.out.trans (bel.mono B13.out.size))
      clear own bel T13 B13 hbm
      have hbm := (T14.out.blk (i := 1) rfl).cell (i := 0) rfl
      go_wp2_with fail
      refine (iFaceCounts_any _ KL.out (ownSS_rd (T14.out.sep.ownSS (i := 0) rfl)) hN KR.out hck hck2).mono ?_
      rintro e w15 ⟨A15, c15, rfl, own, bel⟩
      rw [SK.out.fc, ECn.out, EQ.out] at own
      rw [SK.out.fc, ECn.out, KM.out, EQ.out]
      have T15 := Lib.hid (T14.out.addOwn bel own (Nat.le_refl _))
      have B15 := Lib.hid (B14.out.trans (bel.mono B14.out.size))
      clear own bel T14 B14 hbm
      have hbm := ((S4.out.go B15.out).blk (i := 0) rfl).cell (i := 0) rfl
      go_wp2_with fail
      refine (iTypeOf_any _ HX.out (HA.out.keep (S4.out.go B15.out).below) hN HR.out hcap hc63).mono ?_
      rintro e w16 ⟨A16, c16, rfl, own, bel⟩
      rw [ETy.out, EMm.out] at own
      rw [ETy.out, EM0.out, EMm.out]
      obtain ⟨v16, st_⟩ := T15.out.addRows bel own (Nat.le_refl _) (Nat.le_refl _)
      have T16 := Lib.hid st_
      clear st_
      have B16 := Lib.hid (B15.out.trans (bel.mono B15.out.size))
      clear own bel T15 B15 hbm
      have hbm := (T16.out.blk (i := 1) rfl).cell (i := 0) rfl
      go_wp2_with fail
      refine (iTypeOf_any _ KL.out (ownSS_rd (T16.out.sep.ownSS (i := 0) rfl)) hN KR.out hck hck2).mono ?_
      rintro e w17 ⟨A17, c17, rfl, own, bel⟩
      rw [SK.out.ty, ETy.out, EMm.out] at own
      rw [SK.out.ty, ETy.out, KM.out, EMm.out]
      obtain ⟨v17, st_⟩ := T16.out.addRows bel own (Nat.le_refl _) (Nat.le_refl _)
      have T17 := Lib.hid st_
      clear st_
      have B17 := Lib.hid (B16.out.trans (bel.mono B16.out.size))
      clear own bel T16 B16 hbm
      have hbm := ((S4.out.go B17.out).blk (i := 0) rfl).cell (i := 0) rfl
      go_wp2_with fail
      refine (iIsOrientable_any _ HX.out (HA.out.keep (S4.out.go B17.out).below) hN HR.out).mono ?_
      rintro e w18 ⟨rfl, bel⟩
      rw [EIo.out, EM0.out]
      have T18 := Lib.hid (T17.out.go bel)
      have B18 := Lib.hid (B17.out.trans (bel.mono B17.out.size))
      clear bel T17 B17 hbm
      have hbm := (T18.out.blk (i := 1) rfl).cell (i := 0) rfl
      go_wp2_with fail
      refine (iIsOrientable_any _ KL.out (ownSS_rd (T18.out.sep.ownSS (i := 0) rfl)) hN KR.out).mono ?_
      rintro e w19 ⟨rfl, bel⟩
      rw [SK.out.iso, EIo.out, KM.out]
      have T19 := Lib.hid (T18.out.go bel)
      have B19 := Lib.hid (B18.out.trans (bel.mono B18.out.size))
      clear bel T18 B18 hbm
      have hbm := ((S4.out.go B19.out).blk (i := 0) rfl).cell (i := 0) rfl
      go_wp2_with fail
      refine (iDiameterOf_any _ HX.out (HA.out.keep (S4.out.go B19.out).below) hN HR.out).mono ?_
      rintro e w20 ⟨rfl, bel⟩
      rw [EDi.out, EM0.out]
      have T20 := Lib.hid (T19.out.go bel)
      have B20 := Lib.hid (B19.out.trans (bel.mono B19.out.size))
      clear bel T19 B19 hbm
      have hbm := (T20.out.blk (i := 1) rfl).cell (i := 0) rfl
      go_wp2_with fail
      refine (iDiameterOf_any _ KL.out (ownSS_rd (T20.out.sep.ownSS (i := 0) rfl)) hN KR.out).mono ?_
      rintro e w21 ⟨rfl, bel⟩
      rw [SK.out.dia, EDi.out, KM.out]
      have T21 := Lib.hid (T20.out.go bel)
      have B21 := Lib.hid (B20.out.trans (bel.mono B20.out.size))
      clear bel T20 B20 hbm
      have hbi := (T21.out.blk (i := 3) rfl).cell (i := 0) rfl
      have hbj := ((S4.out.go B21.out).blk (i := 2) rfl).cell (i := 0) rfl
      have RI := Lib.hid (ownSS_rd (T21.out.sep.ownSS (i := 2) rfl))
      have RJ := Lib.hid (ownSS_rd ((S4.out.go B21.out).sep.ownSS (i := 1) rfl))
      go_wp2_with fail
      refine (like5_any (n := R) (m := R) (xss := L) (yss := L) (r := true) _ ER.out ER.out RI.out RJ.out hN hN HLR.out HLR.out (decide_eq_true rfl)).mono ?_
      rintro e w22 ⟨rfl, bel⟩
      have T22 := Lib.hid (T21.out.go bel)
      have B22 := Lib.hid (B21.out.trans (bel.mono B21.out.size))
      clear bel T21 B21 hbi hbj RI RJ
      have RI := Lib.hid (own_rd (T22.out.own (i := 6) rfl))
      have RJ := Lib.hid (own_rd (T22.out.own (i := 7) rfl))
      go_wp2_with fail
      refine (likeB (n := q) (m := q) _ EQ.out EQ.out RI.out RJ.out (by omega)).mono ?_
      rintro e w23 ⟨rfl, bel⟩
      rw [decide_eq_true rfl]
      have T23 := Lib.hid (T22.out.go bel)
      have B23 := Lib.hid (B22.out.trans (bel.mono B22.out.size))
      clear bel T22 B22 RI RJ
      have RI := Lib.hid (ownSS_rd (T23.out.sep.ownSS (i := 8) rfl))
      have RJ := Lib.hid (ownSS_rd (T23.out.sep.ownSS (i := 9) rfl))
      go_wp2_with fail
      refine (same5_any (n := m) (m := m) (xss := Ty) (yss := Ty) (r := true) _ EMm.out EMm.out RI.out RJ.out hm1 hm1 TYR.out TYR.out (decide_eq_true rfl)).mono ?_
      rintro e w24 ⟨rfl, bel⟩
      have T24 := Lib.hid (T23.out.go bel)
      have B24 := Lib.hid (B23.out.trans (bel.mono B23.out.size))
      clear bel T23 B23 RI RJ
      have hioo : (io != io) = false := by simp
      have hdii : (di != di) = false := by simp
      have hbi := (T24.out.blk (i := 5) rfl).cell (i := 0) rfl
      have RI := Lib.hid (ownSS_rd (T24.out.sep.ownSS (i := 4) rfl))
      go_wp2_with fail
      refine (iMan_any _ FL.out RI.out hN FR.out).mono ?_
      rintro e w25 ⟨rfl, bel⟩
      rw [okMan_true SF.out.man]
      have T25 := Lib.hid (T24.out.go bel)
      have B25 := Lib.hid (B24.out.trans (bel.mono B24.out.size))
      clear bel T24 B24 hbi RI
      have hbi := (T25.out.blk (i := 5) rfl).cell (i := 0) rfl
      have hbj := ((S4.out.go B25.out).blk (i := 0) rfl).cell (i := 0) rfl
      have RI := Lib.hid (ownSS_rd (T25.out.sep.ownSS (i := 4) rfl))
      go_wp2_with fail
      refine (least5_true _ FL.out HX.out RI.out (HA.out.keep (S4.out.go B25.out).below) hN hN FR.out HR.out (okMan_true SF.out.man) HOK.out SF.out.lf).mono ?_
      rintro e w26 ⟨rfl, bel⟩
      have T26 := Lib.hid (T25.out.go bel)
      have B26 := Lib.hid (B25.out.trans (bel.mono B25.out.size))
      clear bel T25 B25 hbi hbj RI
      have hRR : ((R : Int) != (R : Int)) = false := by simp
      have hbi := (T26.out.blk (i := 5) rfl).cell (i := 0) rfl
      have hbj := ((S4.out.go B26.out).blk (i := 2) rfl).cell (i := 0) rfl
      have HBI := Lib.hid hbi
      have HBJ := Lib.hid hbj
      have RF := Lib.hid (ownSS_rd (T26.out.sep.ownSS (i := 4) rfl))
      have RL := Lib.hid (ownSS_rd ((S4.out.go B26.out).sep.ownSS (i := 1) rfl))
      go_wp2
      clear hbi hbj hRR hioo hdii
      go_loopw [31] (fun v wr => ∃ i : Nat, i ≤ R ∧ v = .int .i64 i ∧ cmpLL (L.drop i) (FF.drop i) ≤ 0 ∧ ∃ j, wr = w26.drewN j) (fun v _ => R - (intOf v).toNat)
      case atStart => exact ⟨0, Nat.zero_le _, rfl, by simpa using HLE.out, 0, rfl⟩
      case round =>
        obtain ⟨i, hi, rfl, hcmp, j, rfl⟩ := hrel
        have HCMP := Lib.hid hcmp
        have hbi := HBI.out
        have hbj := HBJ.out
        clear hcmp
        by_cases hiR : i < R
        · have iI : (i : Int) < (R : Int) := by omega
          obtain ⟨b1, o1, A1r, c1r, x, rfl, hgx, hcx, hrx, _⟩ := RL.out.row (k := i) (by rw [ER.out]; exact hiR)
          obtain ⟨b2, o2, A2r, c2r, y, rfl, hgy, hcy, hry, _⟩ := RF.out.row (k := i) (by rw [FL.out]; exact hiR)
          have hxn := HLn.out x (List.mem_of_getElem? hgx)
          have hyn := FN.out y (List.mem_of_getElem? hgy)
          rw [hxn] at hcx
          rw [hyn] at hcy
          have HXN := Lib.hid hxn
          have HYN := Lib.hid hyn
          have HRX := Lib.hid hrx
          have HRY := Lib.hid hry
          by_cases he : y = x
          · subst he
            have HNX := Lib.hid (cmpLL_next hgx hgy HCMP.out)
            clear hgx hgy hxn hyn hrx hry
            go_wp2
            go_quiet ((go_at_call 11; exact quiet_more fun W hW => like_val W HYN.out HXN.out (hW ▸ HRY.out) (hW ▸ HRX.out) (by omega) (by omega) (decide_eq_true rfl)))
            go_wp2
            go_roundw
            case rel => exact ⟨i + 1, by omega, by go_num, HNX.out, j + nq, by simp⟩
            case measure => simp [intOf]; omega
          · have HDF := Lib.hid (cmpLL_diff hgx hgy he HCMP.out)
            have HD := Lib.hid (show decide (y = x) = false from decide_eq_false he)
            clear hgx hgy hxn hyn hrx hry he
            go_wp2
            go_quiet ((go_at_call 11; exact quiet_more fun W hW => like_val W HYN.out HXN.out (hW ▸ HRY.out) (hW ▸ HRX.out) (by omega) (by omega) HD.out))
            go_wp2
            go_loopw [32] (fun v wr => ∃ f : Nat, f ≤ n ∧ v = .int .i64 f ∧ cmpL (x.drop f) (y.drop f) < 0 ∧ ∃ j, wr = w26.drewN j) (fun v _ => n - (intOf v).toNat)
            case atStart => exact ⟨0, Nat.zero_le _, rfl, HDF.out, j + nq, by simp⟩
            case round =>
              obtain ⟨f, hf, rfl, hcf, j2, rfl⟩ := hrel
              by_cases hfn : f < n
              · have fI : (f : Int) < (n : Int) := by omega
                obtain ⟨b3, o3, u, rfl, hgu, hcu⟩ := HRX.out.int (k := f) (by rw [HXN.out]; exact hfn)
                obtain ⟨b4, o4, v, rfl, hgv, hcv⟩ := HRY.out.int (k := f) (by rw [HYN.out]; exact hfn)
                rw [cmpL_at hgu hgv] at hcf
                by_cases huv : v = u
                · subst huv
                  have hvv : (v != v) = false := by simp
                  rw [if_neg (by omega), if_neg (by omega)] at hcf
                  have HCF := Lib.hid hcf
                  clear hgu hgv hcf
                  go_wp2
                  go_quiet (fail)
                  go_wp2
                  go_roundw
                  case rel => exact ⟨f + 1, by omega, by go_num, HCF.out, j2 + nq, by simp⟩
                  case measure => simp [intOf]; omega
                · have hvu : (v != u) = true := by rw [bne_iff_ne]; exact huv
                  have hlt : u < v := by
                    by_cases h1 : u < v
                    · exact h1
                    · rw [if_neg h1, if_pos (by omega)] at hcf
                      omega
                  clear hgu hgv hcf
                  go_wp2
                  go_quiet (fail)
                  go_wp2
                  all_goals
                    go_quiet (fail)
                    go_wp2
                    go_ret
                    exact ⟨ret_bool (by simp), B1.out.trans ((S4.out.below.trans ((below_drewN (below_drewN (below_drewN B26.out _) _) _).mono S4.out.lo)).mono B1.out.size)⟩
              · have hfe : f = n := by omega
                rw [List.drop_of_length_le (by rw [HXN.out]; omega), List.drop_of_length_le (by rw [HYN.out]; omega)] at hcf
                simp [cmpL] at hcf
        · obtain rfl : i = R := by omega
          go_wp2
          go_ret
          exact ⟨rfl, B1.out.trans ((S4.out.below.trans ((below_drewN B26.out _).mono S4.out.lo)).mono B1.out.size)⟩
theorem walk_FnRenumbered (a0 : Option Addr) (len0 cap0 : Nat) (z0 : List Int) (w : World) (w0 : IsRow .u8 w a0 len0 cap0 z0) :
    Calls Try.prog 5 #[.slice a0 len0 cap0] w fun e w' => e = .returned (.bool true) ∧ Below w.heap.size w w' := by
  obtain ⟨bs, h1, h2, h3⟩ := isRow_u8 w0
  exact law_FnRenumbered w h1 h2 h3
end Go.Proofs.Ytmfddenjemoedaa
