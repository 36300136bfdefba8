/- FibreOf, DeckMoves and IsNormalCovering: impl's and the spec's. -/
import Derived.Test.YtmgoaabeopnopaaCno
import Derived.Test.YtmgoaabeopnopaaCz
namespace Go.Proofs.Ytmgoaabeopnopaa
open Go.RowKit

theorem noB7_zero {xss yss : List (List Int)} {L : List Int} (h : cvC7 xss yss L = 0) : noB7 xss yss L = nb7 xss L := by
  unfold noB7 nb7
  rw [decide_eq_true h, Bool.true_and, Bool.eq_iff_iff, beq_iff_eq, beq_iff_eq]
  omega
theorem noB7_no {xss yss : List (List Int)} {L : List Int} (h : cvC7 xss yss L ≠ 0) : noB7 xss yss L = false := by
  unfold noB7
  rw [decide_eq_false h]
  rfl


set_option maxHeartbeats 3200000 in
set_option maxRecDepth 8000 in
theorem iFibreOf_any {AL A A1 : Option Addr} {nL cL N c k c1 : Nat} {xss yss : List (List Int)} {L : List Int} (f : Int) (w : World) (hx : xss.length = N) (ha : RdSS w A xss) (hN : N ≤ 1048576) (hr : ∀ xs ∈ xss, (xs.length : Int) ≤ 1048576) (hy : yss.length = k) (hb : RdSS w A1 yss) (hk : k ≤ 1048576) (hs : ∀ xs ∈ yss, (xs.length : Int) ≤ 1048576) (hl : L.length = nL) (hL : Rd w AL (ints L)) (hLn : nL ≤ 1048576) :
    Calls Try.prog 38 #[.agg #[.slice A N c], .agg #[.slice A1 k c1], .slice AL nL cL, .int .i64 f] w (RetS w (fiR7 xss yss L f) (fiC7 xss yss L f)) := by
  have HX := Lib.hid hx
  have HA := Lib.hid ha
  have HR := Lib.hid hr
  have HY := Lib.hid hy
  have HB := Lib.hid hb
  have HT := Lib.hid hs
  have HLL := Lib.hid hl
  have HL := Lib.hid hL
  have st0 := ((St.start w).addBlk #[.slice A N c] 27).addBlk #[.slice A1 k c1] 27
  simp at st0
  have S0 := Lib.hid st0
  have x0 := (st0.blk (i := 0) rfl).cell (i := 0) rfl
  have y0 := (st0.blk (i := 1) rfl).cell (i := 0) rfl
  clear st0
  obtain ⟨C, hC⟩ : ∃ C, cvC7 xss yss L = C := ⟨_, rfl⟩
  have HC := Lib.hid hC
  by_cases h0 : C = 0
  case neg =>
    have e0 : fiR7 xss yss L f = [] := by simp [fiR7, fiC7, hC, h0]
    have e1 : fiC7 xss yss L f = C := by simp [fiC7, hC, h0]
    rw [e0, e1]
    clear e0 e1
    have HV := Lib.hid (show c7V C AL nL cL A N c A1 k c1 = .agg #[.slice none 0 0, .slice none 0 0, .slice none 0 0] from if_neg h0)
    have hc0 : ((C : Int) != 0) = true := by rw [bne_iff_ne]; exact h0
    clear hx ha hr hy hb hs hl hL hC h0
    go_enter Try.func38, Try.ntmps38
    go_wp2_with fail
    refine (iRead7_any _ HX.out (HA.out.keep S0.out.below) hN HR.out HY.out (HB.out.keep S0.out.below) hk HT.out HLL.out (HL.out.keep S0.out.below) hLn).mono ?_
    rintro e w1 ⟨rfl, bel⟩
    rw [HC.out, HV.out]
    have S2 := Lib.hid ((S0.out.go bel).addBlk #[.slice none 0 0, .slice none 0 0, .slice none 0 0] 88)
    clear bel x0 y0
    go_wp2
    go_ret2
    exact ⟨none, 0, rfl, World.ownsRow_nil _ _ _ _, S2.out.below⟩
  case pos =>
    subst h0
    obtain ⟨hman, hman2, hcov⟩ := cvC7_zero hC
    have hm1 := okMan_iff.2 hman
    have hln : nL = flN xss := by rw [← hl]; exact hcov.2.len
    have HV := Lib.hid (show c7V 0 AL nL cL A N c A1 k c1 = .agg #[.slice AL nL cL, .slice A N c, .slice A1 k c1] from rfl)
    have hpos2 := hman2.pos hy
    have hk4 := hman2.f4
    obtain ⟨b1, o1, A2, c2, rfl, hc2⟩ := man_row0 hman2 hb
    obtain ⟨n1, hn1⟩ : ∃ n, flN yss = n := ⟨_, rfl⟩
    rw [hn1] at hc2 hk4
    have HC2 := Lib.hid hc2
    obtain ⟨fb, hfb⟩ : ∃ fb, flagB n1 f = fb := ⟨_, rfl⟩
    have HFB := Lib.hid hfb
    cases fb with
    | false =>
      have e0 : fiR7 xss yss L f = [] := by simp [fiR7, fiC7, hC, hn1, hfb]
      have e1 : fiC7 xss yss L f = 2 := by simp [fiC7, hC, hn1, hfb]
      rw [e0, e1]
      clear e0 e1
      clear hx ha hr hy hb hs hl hL hC hman hman2 hcov hm1 hln hc2 hn1 hfb
      go_enter Try.func38, Try.ntmps38
      go_wp2_with fail
      refine (iRead7_any _ HX.out (HA.out.keep S0.out.below) hN HR.out HY.out (HB.out.keep S0.out.below) hk HT.out HLL.out (HL.out.keep S0.out.below) hLn).mono ?_
      rintro e w1 ⟨rfl, bel⟩
      rw [HC.out, HV.out]
      have S2 := Lib.hid ((S0.out.go bel).addBlk #[.slice AL nL cL, .slice A N c, .slice (some ⟨b1, o1, none⟩) k c1] 88)
      clear bel x0 y0
      have y1 := (S2.out.blk (i := 1) rfl).cell (i := 0) rfl
      go_wp2_with fail
      refine (iFlag_bel f _ hpos2 (cell_be HC2.out S2.out.below) (by omega) HFB.out).mono ?_
      rintro e w3 ⟨rfl, bel⟩
      have S3 := Lib.hid (S2.out.go bel)
      clear bel y1
      go_wp2
      go_ret2
      exact ⟨none, 0, rfl, World.ownsRow_nil _ _ _ _, S3.out.below⟩
    | true =>
      have e0 : fiR7 xss yss L f = fibL7 L f := by simp [fiR7, fiC7, hC, hn1, hfb]
      have e1 : fiC7 xss yss L f = 0 := by simp [fiC7, hC, hn1, hfb]
      rw [e0, e1]
      clear e0 e1
      clear hx ha hr hy hb hs hl hL hC hman hman2 hcov hm1 hln hc2 hn1 hfb
      go_enter Try.func38, Try.ntmps38
      go_wp2_with fail
      refine (iRead7_any _ HX.out (HA.out.keep S0.out.below) hN HR.out HY.out (HB.out.keep S0.out.below) hk HT.out HLL.out (HL.out.keep S0.out.below) hLn).mono ?_
      rintro e w1 ⟨rfl, bel⟩
      rw [HC.out, HV.out]
      have S2 := Lib.hid ((S0.out.go bel).addBlk #[.slice AL nL cL, .slice A N c, .slice (some ⟨b1, o1, none⟩) k c1] 88)
      clear bel x0 y0
      have y1 := (S2.out.blk (i := 1) rfl).cell (i := 0) rfl
      go_wp2_with fail
      refine (iFlag_bel f _ hpos2 (cell_be HC2.out S2.out.below) (by omega) HFB.out).mono ?_
      rintro e w3 ⟨rfl, bel⟩
      have S3 := Lib.hid (S2.out.go bel)
      clear bel y1
      have t0 := (S3.out.blk (i := 2) rfl).cell (i := 0) rfl
      go_wp2_with fail
      refine (iFib_any f _ HLL.out (HL.out.keep S3.out.below) hLn).mono ?_
      rintro e w4 ⟨A4, m4, c4, rfl, hm4, own, bel⟩
      subst hm4
      have OWN := Lib.hid (own_base own S3.out.lo)
      have S4 := Lib.hid (S3.out.go bel)
      clear own bel t0
      go_wp2
      go_ret2
      exact ⟨A4, c4, rfl, OWN.out, S4.out.below⟩

set_option maxHeartbeats 3200000 in
set_option maxRecDepth 8000 in
theorem iDeckMoves_any {AL A A1 : Option Addr} {nL cL N c k c1 : Nat} {xss yss : List (List Int)} {L : List Int} (w : World) (hx : xss.length = N) (ha : RdSS w A xss) (hN : N ≤ 1048576) (hr : ∀ xs ∈ xss, (xs.length : Int) ≤ 1048576) (hy : yss.length = k) (hb : RdSS w A1 yss) (hk : k ≤ 1048576) (hs : ∀ xs ∈ yss, (xs.length : Int) ≤ 1048576) (hl : L.length = nL) (hL : Rd w AL (ints L)) (hLn : nL ≤ 1048576) :
    Calls Try.prog 40 #[.agg #[.slice A N c], .agg #[.slice A1 k c1], .slice AL nL cL] w (fun e w' => ∃ A' c', e = .returned (.tuple #[.slice A' (dkR7 xss yss L).length c', .int .i64 (cvC7 xss yss L)]) ∧ OwnSS w' w.heap.size w'.heap.size 36 A' (dkR7 xss yss L).length c' (dkR7 xss yss L) ∧ Below w.heap.size w w') := by
  have HX := Lib.hid hx
  have HA := Lib.hid ha
  have HR := Lib.hid hr
  have HY := Lib.hid hy
  have HB := Lib.hid hb
  have HT := Lib.hid hs
  have HLL := Lib.hid hl
  have HL := Lib.hid hL
  have st0 := ((St.start w).addBlk #[.slice A N c] 27).addBlk #[.slice A1 k c1] 27
  simp at st0
  have S0 := Lib.hid st0
  have x0 := (st0.blk (i := 0) rfl).cell (i := 0) rfl
  have y0 := (st0.blk (i := 1) rfl).cell (i := 0) rfl
  clear st0
  obtain ⟨C, hC⟩ : ∃ C, cvC7 xss yss L = C := ⟨_, rfl⟩
  have HC := Lib.hid hC
  by_cases h0 : C = 0
  case neg =>
    have e0 : dkR7 xss yss L = [] := by simp [dkR7, hC, h0]
    have e1 : cvC7 xss yss L = C := hC
    rw [e0, e1]
    clear e0 e1
    have HV := Lib.hid (show c7V C AL nL cL A N c A1 k c1 = .agg #[.slice none 0 0, .slice none 0 0, .slice none 0 0] from if_neg h0)
    have hc0 : ((C : Int) != 0) = true := by rw [bne_iff_ne]; exact h0
    clear hx ha hr hy hb hs hl hL hC h0
    go_enter Try.func40, Try.ntmps40
    go_wp2_with fail
    refine (iRead7_any _ HX.out (HA.out.keep S0.out.below) hN HR.out HY.out (HB.out.keep S0.out.below) hk HT.out HLL.out (HL.out.keep S0.out.below) hLn).mono ?_
    rintro e w1 ⟨rfl, bel⟩
    rw [HC.out, HV.out]
    have S2 := Lib.hid ((S0.out.go bel).addBlk #[.slice none 0 0, .slice none 0 0, .slice none 0 0] 88)
    clear bel x0 y0
    go_wp2
    go_ret2
    exact ⟨none, 0, rfl, ownSS_nil _ _ _ _, S2.out.below⟩
  case pos =>
    subst h0
    obtain ⟨hman, hman2, hcov⟩ := cvC7_zero hC
    have hm1 := okMan_iff.2 hman
    have hln : nL = flN xss := by rw [← hl]; exact hcov.2.len
    have HV := Lib.hid (show c7V 0 AL nL cL A N c A1 k c1 = .agg #[.slice AL nL cL, .slice A N c, .slice A1 k c1] from rfl)
    have e0 : dkR7 xss yss L = dkL7 xss L := by simp [dkR7, hC]
    have e1 : cvC7 xss yss L = 0 := hC
    rw [e0, e1]
    clear e0 e1
    have HM := Lib.hid hm1
    have HLN := Lib.hid hln
    clear hx ha hr hy hb hs hl hL hC hman hman2 hcov hm1 hln
    go_enter Try.func40, Try.ntmps40
    go_wp2_with fail
    refine (iRead7_any _ HX.out (HA.out.keep S0.out.below) hN HR.out HY.out (HB.out.keep S0.out.below) hk HT.out HLL.out (HL.out.keep S0.out.below) hLn).mono ?_
    rintro e w1 ⟨rfl, bel⟩
    rw [HC.out, HV.out]
    have S2 := Lib.hid ((S0.out.go bel).addBlk #[.slice AL nL cL, .slice A N c, .slice A1 k c1] 88)
    clear bel x0 y0
    have t0 := (S2.out.blk (i := 2) rfl).cell (i := 0) rfl
    have t1 := (S2.out.blk (i := 2) rfl).cell (i := 1) rfl
    have t2 := (S2.out.blk (i := 2) rfl).cell (i := 2) rfl
    go_wp2_with fail
    refine (iDeck_any _ HM.out HX.out (HA.out.keep S2.out.below) HLL.out (HL.out.keep S2.out.below) HLN.out).mono ?_
    rintro e w3 ⟨A3, m3, c3, rfl, hm3, own, bel⟩
    subst hm3
    have S3 := Lib.hid (S2.out.go bel)
    have OWN := Lib.hid (ownSS_wide own S2.out.lo (Nat.le_refl _))
    clear own bel
    go_wp2
    go_ret2
    exact ⟨A3, c3, rfl, OWN.out, S3.out.below⟩

set_option maxHeartbeats 3200000 in
set_option maxRecDepth 8000 in
theorem iIsNormalCovering_any {AL A A1 : Option Addr} {nL cL N c k c1 : Nat} {xss yss : List (List Int)} {L : List Int} (w : World) (hx : xss.length = N) (ha : RdSS w A xss) (hN : N ≤ 1048576) (hr : ∀ xs ∈ xss, (xs.length : Int) ≤ 1048576) (hy : yss.length = k) (hb : RdSS w A1 yss) (hk : k ≤ 1048576) (hs : ∀ xs ∈ yss, (xs.length : Int) ≤ 1048576) (hl : L.length = nL) (hL : Rd w AL (ints L)) (hLn : nL ≤ 1048576) :
    Calls Try.prog 43 #[.agg #[.slice A N c], .agg #[.slice A1 k c1], .slice AL nL cL] w (fun e w' => e = .returned (.tuple #[.bool (noB7 xss yss L), .int .i64 (cvC7 xss yss L)]) ∧ Below w.heap.size w w') := by
  have HX := Lib.hid hx
  have HA := Lib.hid ha
  have HR := Lib.hid hr
  have HY := Lib.hid hy
  have HB := Lib.hid hb
  have HT := Lib.hid hs
  have HLL := Lib.hid hl
  have HL := Lib.hid hL
  have st0 := ((St.start w).addBlk #[.slice A N c] 27).addBlk #[.slice A1 k c1] 27
  simp at st0
  have S0 := Lib.hid st0
  have x0 := (st0.blk (i := 0) rfl).cell (i := 0) rfl
  have y0 := (st0.blk (i := 1) rfl).cell (i := 0) rfl
  clear st0
  obtain ⟨C, hC⟩ : ∃ C, cvC7 xss yss L = C := ⟨_, rfl⟩
  have HC := Lib.hid hC
  by_cases h0 : C = 0
  case neg =>
    have e0 : noB7 xss yss L = false := noB7_no (by rw [hC]; exact h0)
    have e1 : cvC7 xss yss L = C := hC
    rw [e0, e1]
    clear e0 e1
    have HV := Lib.hid (show c7V C AL nL cL A N c A1 k c1 = .agg #[.slice none 0 0, .slice none 0 0, .slice none 0 0] from if_neg h0)
    have hc0 : ((C : Int) != 0) = true := by rw [bne_iff_ne]; exact h0
    clear hx ha hr hy hb hs hl hL hC h0
    go_enter Try.func43, Try.ntmps43
    go_wp2_with fail
    refine (iRead7_any _ HX.out (HA.out.keep S0.out.below) hN HR.out HY.out (HB.out.keep S0.out.below) hk HT.out HLL.out (HL.out.keep S0.out.below) hLn).mono ?_
    rintro e w1 ⟨rfl, bel⟩
    rw [HC.out, HV.out]
    have S2 := Lib.hid ((S0.out.go bel).addBlk #[.slice none 0 0, .slice none 0 0, .slice none 0 0] 88)
    clear bel x0 y0
    go_wp2
    go_ret2
    exact ⟨rfl, S2.out.below⟩
  case pos =>
    subst h0
    obtain ⟨hman, hman2, hcov⟩ := cvC7_zero hC
    have hm1 := okMan_iff.2 hman
    have hln : nL = flN xss := by rw [← hl]; exact hcov.2.len
    have HV := Lib.hid (show c7V 0 AL nL cL A N c A1 k c1 = .agg #[.slice AL nL cL, .slice A N c, .slice A1 k c1] from rfl)
    obtain ⟨r, hr2⟩ : ∃ r, nb7 xss L = r := ⟨_, rfl⟩
    have e0 : noB7 xss yss L = r := (noB7_zero hC).trans hr2
    have e1 : cvC7 xss yss L = 0 := hC
    rw [e0, e1]
    clear e0 e1
    have HR2 := Lib.hid hr2
    have HM := Lib.hid hm1
    have HLN := Lib.hid hln
    clear hx ha hr hy hb hs hl hL hC hman hman2 hcov hm1 hln hr2
    go_enter Try.func43, Try.ntmps43
    go_wp2_with fail
    refine (iRead7_any _ HX.out (HA.out.keep S0.out.below) hN HR.out HY.out (HB.out.keep S0.out.below) hk HT.out HLL.out (HL.out.keep S0.out.below) hLn).mono ?_
    rintro e w1 ⟨rfl, bel⟩
    rw [HC.out, HV.out]
    have S2 := Lib.hid ((S0.out.go bel).addBlk #[.slice AL nL cL, .slice A N c, .slice A1 k c1] 88)
    clear bel x0 y0
    have t0 := (S2.out.blk (i := 2) rfl).cell (i := 0) rfl
    have t1 := (S2.out.blk (i := 2) rfl).cell (i := 1) rfl
    have t2 := (S2.out.blk (i := 2) rfl).cell (i := 2) rfl
    go_wp2_with fail
    refine (iNormal_any _ HM.out HX.out (HA.out.keep S2.out.below) HLL.out (HL.out.keep S2.out.below) HLN.out).mono ?_
    rintro e w3 ⟨rfl, bel⟩
    rw [HR2.out]
    have S3 := Lib.hid (S2.out.go bel)
    clear bel
    go_wp2
    go_ret2
    exact ⟨rfl, S3.out.below⟩

set_option maxHeartbeats 3200000 in
set_option maxRecDepth 8000 in
theorem sFibreOf_any {AL A A1 : Option Addr} {nL cL N c k c1 : Nat} {xss yss : List (List Int)} {L : List Int} (f : Int) (w : World) (hx : xss.length = N) (ha : RdSS w A xss) (hN : N ≤ 1048576) (hr : ∀ xs ∈ xss, (xs.length : Int) ≤ 1048576) (hy : yss.length = k) (hb : RdSS w A1 yss) (hk : k ≤ 1048576) (hs : ∀ xs ∈ yss, (xs.length : Int) ≤ 1048576) (hl : L.length = nL) (hL : Rd w AL (ints L)) (hLn : nL ≤ 1048576) :
    Calls Try.prog 37 #[.agg #[.slice A N c], .agg #[.slice A1 k c1], .slice AL nL cL, .int .i64 f] w (RetS w (fiR7 xss yss L f) (fiC7 xss yss L f)) := by
  have HX := Lib.hid hx
  have HA := Lib.hid ha
  have HR := Lib.hid hr
  have HY := Lib.hid hy
  have HB := Lib.hid hb
  have HT := Lib.hid hs
  have HLL := Lib.hid hl
  have HL := Lib.hid hL
  have st0 := ((St.start w).addBlk #[.slice A N c] 27).addBlk #[.slice A1 k c1] 27
  simp at st0
  have S0 := Lib.hid st0
  have x0 := (st0.blk (i := 0) rfl).cell (i := 0) rfl
  have y0 := (st0.blk (i := 1) rfl).cell (i := 0) rfl
  clear st0
  obtain ⟨C, hC⟩ : ∃ C, cvC7 xss yss L = C := ⟨_, rfl⟩
  have HC := Lib.hid hC
  by_cases h0 : C = 0
  case neg =>
    have e0 : fiR7 xss yss L f = [] := by simp [fiR7, fiC7, hC, h0]
    have e1 : fiC7 xss yss L f = C := by simp [fiC7, hC, h0]
    rw [e0, e1]
    clear e0 e1
    have hc0 : ((C : Int) != 0) = true := by rw [bne_iff_ne]; exact h0
    have hc1 : ((C : Int) == 0) = false := by rw [beq_eq_false_iff_ne]; exact h0
    clear hx ha hr hy hb hs hl hL hC h0
    go_enter Try.func37, Try.ntmps37
    go_wp2_with fail
    refine (sCode7_any _ HX.out (HA.out.keep S0.out.below) hN HR.out HY.out (HB.out.keep S0.out.below) hk HT.out HLL.out (HL.out.keep S0.out.below) hLn).mono ?_
    rintro e w1 ⟨rfl, bel⟩
    rw [HC.out]
    have S2 := Lib.hid (S0.out.go bel)
    clear bel x0 y0
    go_wp2
    go_ret2
    exact ⟨none, 0, rfl, World.ownsRow_nil _ _ _ _, S2.out.below⟩
  case pos =>
    subst h0
    obtain ⟨hman, hman2, hcov⟩ := cvC7_zero hC
    have hm1 := okMan_iff.2 hman
    have hln : nL = flN xss := by rw [← hl]; exact hcov.2.len
    have hpos2 := hman2.pos hy
    have hk4 := hman2.f4
    obtain ⟨b1, o1, A2, c2, rfl, hc2⟩ := man_row0 hman2 hb
    obtain ⟨n1, hn1⟩ : ∃ n, flN yss = n := ⟨_, rfl⟩
    rw [hn1] at hc2 hk4
    have HC2 := Lib.hid hc2
    obtain ⟨fb, hfb⟩ : ∃ fb, flagB n1 f = fb := ⟨_, rfl⟩
    have HFB := Lib.hid hfb
    cases fb with
    | false =>
      have e0 : fiR7 xss yss L f = [] := by simp [fiR7, fiC7, hC, hn1, hfb]
      have e1 : fiC7 xss yss L f = 2 := by simp [fiC7, hC, hn1, hfb]
      rw [e0, e1]
      clear e0 e1
      clear hx ha hr hy hb hs hl hL hC hman hman2 hcov hm1 hln hc2 hn1 hfb
      go_enter Try.func37, Try.ntmps37
      go_wp2_with fail
      refine (sCode7_any _ HX.out (HA.out.keep S0.out.below) hN HR.out HY.out (HB.out.keep S0.out.below) hk HT.out HLL.out (HL.out.keep S0.out.below) hLn).mono ?_
      rintro e w1 ⟨rfl, bel⟩
      rw [HC.out]
      have S2 := Lib.hid (S0.out.go bel)
      clear bel x0 y0
      have y1 := (S2.out.blk (i := 1) rfl).cell (i := 0) rfl
      go_wp2_with fail
      refine (sFlag_bel f _ hpos2 (cell_be HC2.out S2.out.below) (by omega) HFB.out).mono ?_
      rintro e w3 ⟨rfl, bel⟩
      have S3 := Lib.hid (S2.out.go bel)
      clear bel y1
      go_wp2
      go_ret2
      exact ⟨none, 0, rfl, World.ownsRow_nil _ _ _ _, S3.out.below⟩
    | true =>
      have e0 : fiR7 xss yss L f = fibL7 L f := by simp [fiR7, fiC7, hC, hn1, hfb]
      have e1 : fiC7 xss yss L f = 0 := by simp [fiC7, hC, hn1, hfb]
      rw [e0, e1]
      clear e0 e1
      clear hx ha hr hy hb hs hl hL hC hman hman2 hcov hm1 hln hc2 hn1 hfb
      go_enter Try.func37, Try.ntmps37
      go_wp2_with fail
      refine (sCode7_any _ HX.out (HA.out.keep S0.out.below) hN HR.out HY.out (HB.out.keep S0.out.below) hk HT.out HLL.out (HL.out.keep S0.out.below) hLn).mono ?_
      rintro e w1 ⟨rfl, bel⟩
      rw [HC.out]
      have S2 := Lib.hid (S0.out.go bel)
      clear bel x0 y0
      have y1 := (S2.out.blk (i := 1) rfl).cell (i := 0) rfl
      go_wp2_with fail
      refine (sFlag_bel f _ hpos2 (cell_be HC2.out S2.out.below) (by omega) HFB.out).mono ?_
      rintro e w3 ⟨rfl, bel⟩
      have S3 := Lib.hid (S2.out.go bel)
      clear bel y1
      go_wp2_with fail
      refine (sFib_any f _ HLL.out (HL.out.keep S3.out.below) hLn).mono ?_
      rintro e w4 ⟨A4, m4, c4, rfl, hm4, own, bel⟩
      subst hm4
      have OWN := Lib.hid (own_base own S3.out.lo)
      have S4 := Lib.hid (S3.out.go bel)
      clear own bel
      go_wp2
      go_ret2
      exact ⟨A4, c4, rfl, OWN.out, S4.out.below⟩

set_option maxHeartbeats 3200000 in
set_option maxRecDepth 8000 in
theorem sDeckMoves_any {AL A A1 : Option Addr} {nL cL N c k c1 : Nat} {xss yss : List (List Int)} {L : List Int} (w : World) (hx : xss.length = N) (ha : RdSS w A xss) (hN : N ≤ 1048576) (hr : ∀ xs ∈ xss, (xs.length : Int) ≤ 1048576) (hy : yss.length = k) (hb : RdSS w A1 yss) (hk : k ≤ 1048576) (hs : ∀ xs ∈ yss, (xs.length : Int) ≤ 1048576) (hl : L.length = nL) (hL : Rd w AL (ints L)) (hLn : nL ≤ 1048576) :
    Calls Try.prog 39 #[.agg #[.slice A N c], .agg #[.slice A1 k c1], .slice AL nL cL] w (fun e w' => ∃ A' c', e = .returned (.tuple #[.slice A' (dkR7 xss yss L).length c', .int .i64 (cvC7 xss yss L)]) ∧ OwnSS w' w.heap.size w'.heap.size 36 A' (dkR7 xss yss L).length c' (dkR7 xss yss L) ∧ Below w.heap.size w w') := by
  have HX := Lib.hid hx
  have HA := Lib.hid ha
  have HR := Lib.hid hr
  have HY := Lib.hid hy
  have HB := Lib.hid hb
  have HT := Lib.hid hs
  have HLL := Lib.hid hl
  have HL := Lib.hid hL
  have st0 := ((St.start w).addBlk #[.slice A N c] 27).addBlk #[.slice A1 k c1] 27
  simp at st0
  have S0 := Lib.hid st0
  have x0 := (st0.blk (i := 0) rfl).cell (i := 0) rfl
  have y0 := (st0.blk (i := 1) rfl).cell (i := 0) rfl
  clear st0
  obtain ⟨C, hC⟩ : ∃ C, cvC7 xss yss L = C := ⟨_, rfl⟩
  have HC := Lib.hid hC
  by_cases h0 : C = 0
  case neg =>
    have e0 : dkR7 xss yss L = [] := by simp [dkR7, hC, h0]
    have e1 : cvC7 xss yss L = C := hC
    rw [e0, e1]
    clear e0 e1
    have hc0 : ((C : Int) != 0) = true := by rw [bne_iff_ne]; exact h0
    clear hx ha hr hy hb hs hl hL hC h0
    go_enter Try.func39, Try.ntmps39
    go_wp2_with fail
    refine (sCode7_any _ HX.out (HA.out.keep S0.out.below) hN HR.out HY.out (HB.out.keep S0.out.below) hk HT.out HLL.out (HL.out.keep S0.out.below) hLn).mono ?_
    rintro e w1 ⟨rfl, bel⟩
    rw [HC.out]
    have S2 := Lib.hid (S0.out.go bel)
    clear bel x0 y0
    go_wp2
    go_ret2
    exact ⟨none, 0, rfl, ownSS_nil _ _ _ _, S2.out.below⟩
  case pos =>
    subst h0
    obtain ⟨hman, hman2, hcov⟩ := cvC7_zero hC
    have hm1 := okMan_iff.2 hman
    have hln : nL = flN xss := by rw [← hl]; exact hcov.2.len
    have e0 : dkR7 xss yss L = dkL7 xss L := by simp [dkR7, hC]
    have e1 : cvC7 xss yss L = 0 := hC
    rw [e0, e1]
    clear e0 e1
    have HM := Lib.hid hm1
    have HLN := Lib.hid hln
    clear hx ha hr hy hb hs hl hL hC hman hman2 hcov hm1 hln
    go_enter Try.func39, Try.ntmps39
    go_wp2_with fail
    refine (sCode7_any _ HX.out (HA.out.keep S0.out.below) hN HR.out HY.out (HB.out.keep S0.out.below) hk HT.out HLL.out (HL.out.keep S0.out.below) hLn).mono ?_
    rintro e w1 ⟨rfl, bel⟩
    rw [HC.out]
    have S2 := Lib.hid (S0.out.go bel)
    clear bel x0 y0
    have y1 := (S2.out.blk (i := 0) rfl).cell (i := 0) rfl
    go_wp2_with fail
    refine (sDeck_any _ HM.out HX.out (HA.out.keep S2.out.below) HLL.out (HL.out.keep S2.out.below) HLN.out).mono ?_
    rintro e w3 ⟨A3, m3, c3, rfl, hm3, own, bel⟩
    subst hm3
    have S3 := Lib.hid (S2.out.go bel)
    have OWN := Lib.hid (ownSS_wide own S2.out.lo (Nat.le_refl _))
    clear own bel
    go_wp2
    go_ret2
    exact ⟨A3, c3, rfl, OWN.out, S3.out.below⟩

set_option maxHeartbeats 3200000 in
set_option maxRecDepth 8000 in
theorem sIsNormalCovering_any {AL A A1 : Option Addr} {nL cL N c k c1 : Nat} {xss yss : List (List Int)} {L : List Int} (w : World) (hx : xss.length = N) (ha : RdSS w A xss) (hN : N ≤ 1048576) (hr : ∀ xs ∈ xss, (xs.length : Int) ≤ 1048576) (hy : yss.length = k) (hb : RdSS w A1 yss) (hk : k ≤ 1048576) (hs : ∀ xs ∈ yss, (xs.length : Int) ≤ 1048576) (hl : L.length = nL) (hL : Rd w AL (ints L)) (hLn : nL ≤ 1048576) :
    Calls Try.prog 42 #[.agg #[.slice A N c], .agg #[.slice A1 k c1], .slice AL nL cL] w (fun e w' => e = .returned (.tuple #[.bool (noB7 xss yss L), .int .i64 (cvC7 xss yss L)]) ∧ Below w.heap.size w w') := by
  have HX := Lib.hid hx
  have HA := Lib.hid ha
  have HR := Lib.hid hr
  have HY := Lib.hid hy
  have HB := Lib.hid hb
  have HT := Lib.hid hs
  have HLL := Lib.hid hl
  have HL := Lib.hid hL
  have st0 := ((St.start w).addBlk #[.slice A N c] 27).addBlk #[.slice A1 k c1] 27
  simp at st0
  have S0 := Lib.hid st0
  have x0 := (st0.blk (i := 0) rfl).cell (i := 0) rfl
  have y0 := (st0.blk (i := 1) rfl).cell (i := 0) rfl
  clear st0
  obtain ⟨C, hC⟩ : ∃ C, cvC7 xss yss L = C := ⟨_, rfl⟩
  have HC := Lib.hid hC
  by_cases h0 : C = 0
  case neg =>
    have e0 : noB7 xss yss L = false := noB7_no (by rw [hC]; exact h0)
    have e1 : cvC7 xss yss L = C := hC
    rw [e0, e1]
    clear e0 e1
    have hc0 : ((C : Int) != 0) = true := by rw [bne_iff_ne]; exact h0
    clear hx ha hr hy hb hs hl hL hC h0
    go_enter Try.func42, Try.ntmps42
    go_wp2_with fail
    refine (sCode7_any _ HX.out (HA.out.keep S0.out.below) hN HR.out HY.out (HB.out.keep S0.out.below) hk HT.out HLL.out (HL.out.keep S0.out.below) hLn).mono ?_
    rintro e w1 ⟨rfl, bel⟩
    rw [HC.out]
    have S2 := Lib.hid (S0.out.go bel)
    clear bel x0 y0
    go_wp2
    go_ret2
    exact ⟨rfl, S2.out.below⟩
  case pos =>
    subst h0
    obtain ⟨hman, hman2, hcov⟩ := cvC7_zero hC
    have hm1 := okMan_iff.2 hman
    have hln : nL = flN xss := by rw [← hl]; exact hcov.2.len
    obtain ⟨r, hr2⟩ : ∃ r, nb7 xss L = r := ⟨_, rfl⟩
    have e0 : noB7 xss yss L = r := (noB7_zero hC).trans hr2
    have e1 : cvC7 xss yss L = 0 := hC
    rw [e0, e1]
    clear e0 e1
    have HNB := Lib.hid (show (((dkL7 xss L).length : Int) == ((fibL7 L 0).length : Int)) = r from by rw [← hr2, nb7, fib_eq hman hman2 hcov])
    have HR2 := Lib.hid hr2
    have HM := Lib.hid hm1
    have HLN := Lib.hid hln
    clear hx ha hr hy hb hs hl hL hC hman hman2 hcov hm1 hln hr2
    go_enter Try.func42, Try.ntmps42
    go_wp2_with fail
    refine (sCode7_any _ HX.out (HA.out.keep S0.out.below) hN HR.out HY.out (HB.out.keep S0.out.below) hk HT.out HLL.out (HL.out.keep S0.out.below) hLn).mono ?_
    rintro e w1 ⟨rfl, bel⟩
    rw [HC.out]
    have S2 := Lib.hid (S0.out.go bel)
    clear bel x0 y0
    have y1 := (S2.out.blk (i := 0) rfl).cell (i := 0) rfl
    go_wp2_with fail
    refine (sDeck_any _ HM.out HX.out (HA.out.keep S2.out.below) HLL.out (HL.out.keep S2.out.below) HLN.out).mono ?_
    rintro e w3 ⟨A3, m3, c3, rfl, hm3, own, bel⟩
    have S3 := Lib.hid (S2.out.go bel)
    clear own bel y1
    have HM3 := Lib.hid hm3
    clear hm3
    go_wp2_with fail
    refine (sFib_any 0 _ HLL.out (HL.out.keep S3.out.below) hLn).mono ?_
    rintro e w4 ⟨A4, m4, c4, rfl, hm4, own, bel⟩
    have S4 := Lib.hid (S3.out.go bel)
    have hnb := HNB.out
    rw [HM3.out, hm4] at hnb
    clear own bel hm4
    go_wp2
    go_ret2
    exact ⟨rfl, S4.out.below⟩

end Go.Proofs.Ytmgoaabeopnopaa
