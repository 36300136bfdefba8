import Derived.Test.YtmfddenjemoedaaFpf
import Derived.Test.YtmfddenjemoedaaSfp
import Derived.Test.YtmfddenjemoedaaLk
import Derived.Test.YtmfddenjemoedaaFcn
import Derived.BigQuiet
namespace Go.Proofs.Ytmfddenjemoedaa
open Go.RowKit

section
variable {A : Option Addr} {n c : Nat} {bs : List Value}
set_option maxHeartbeats 1600000 in
theorem drawFp (w : World) (hl : bs.length = n) (hr : Rd w A bs) (hu : ∀ v ∈ bs, ∃ x : Nat, v = .int .u8 x ∧ x < 256) (hn : n ≤ 1048576) :
    Calls Try.prog 37 #[.slice A n c] w (RetX w) := by
  have HR := Lib.hid (hr.keep ((Below.refl _ _).alloc (Nat.le_refl _) (.cells #[.slice none 0 0] 45)))
  have HL := Lib.hid hl
  have HU := Lib.hid hu
  have S0 := Lib.hid ((St.start w).addBlk #[.slice none 0 0] 45)
  clear hl hr hu
  go_enter Try.func37, Try.ntmps37
  go_wp2_with fail
  refine (from_any _ HL.out HR.out HU.out hn).mono ?_
  rintro e w1 ⟨g, at', h', rfl, hg, hg1, src, bel⟩
  have HS := Lib.hid (show SrcE (w1.alloc (.cells #[.int .i64 40, .int .i64 40, .int .i64 100] 2)) g A n c bs from SrcE.alloc ⟨at', h', src⟩ _)
  have BEL := Lib.hid (bel.trans ((below1 w1 (.cells #[.int .i64 40, .int .i64 40, .int .i64 100] 2)).mono bel.size))
  have Q := Lib.hid (show ∀ b o, some (⟨w1.heap.size, 0, none⟩ : Addr) = some ⟨b, o, none⟩ → b < g ∨ g + 1 ≤ b from fun b o e => by simp at e; omega)
  clear src bel
  go_wp2_with fail
  refine (pickE (m := 3) (c2 := 3) (xs := [40, 40, 100]) _ HS.out hn rfl (by decide) (by decide) (lit_rd w1 _ _) Q.out).mono ?_
  rintro e w2 ⟨r, rfl, hm, hs2, tu2⟩
  obtain ⟨most, hmost, h8, h4⟩ : ∃ most : Nat, r = (most : Int) ∧ 8 ≤ most ∧ most ≤ 400 := by
    simp at hm
    rcases hm with rfl | rfl
    · exact ⟨40, rfl, by decide, by decide⟩
    · exact ⟨100, rfl, by decide, by decide⟩
  subst hmost
  have BEL2 := Lib.hid (Turns.below BEL.out tu2 BEL.out.size hg)
  have HS2 := Lib.hid hs2
  clear hs2 tu2 hm
  go_wp2_with fail
  refine (spoil2P (most := most) _ HS2.out hn h8 h4).mono ?_
  rintro e w3 ⟨wb, A', N, c', xss, rfl, hl, hN, hR, hc, hc63, d, st⟩
  obtain ⟨tu, sep⟩ := d.fin st
  have S2 := Lib.hid (S0.out.go (Turns.below BEL2.out tu BEL2.out.size hg))
  have HX := Lib.hid hl
  have HRR := Lib.hid hR
  have SEP := Lib.hid sep
  have hlt : w.heap.size < w2.heap.size := by have := BEL2.out.size; simp at this; omega
  have z0 := (S2.out.blk (i := 0) rfl).cell (i := 0) rfl
  have f0 := (S2.out.blk (i := 0) rfl).free 0
  clear hl hR d st tu sep
  go_wp2
  have st4 := S2.out.blkSet (i := 0) rfl 0 (.slice A' N c')
  have y0 := (st4.blk (i := 0) rfl).cell (i := 0) rfl
  exact bodyPost_ret (v := .agg #[.slice A' N c']) (by simp [results, Try.results37, go_sem, y0]) rfl ⟨A', N, c', xss, rfl, HX.out, hN, fun xs hx => by have := HRR.out xs hx; omega, hc, hc63, rds_set SEP.out hlt, st4.below⟩
end
set_option maxHeartbeats 800000 in
theorem likeP_true {R : Int} {A B A2 B2 : Option Addr} {N c M d c2 d2 : Nat} {xs : List Int} {bss : List (List Int)} (w : World) (hx : xs.length = N) (ha : Rd w A (ints xs)) (ha2 : Rd w A2 (ints xs)) (hy : bss.length = M) (hb : RdSS w B bss) (hb2 : RdSS w B2 bss) (hN : N ≤ 1048576) (hM : M ≤ 1048576) (hr : ∀ xs ∈ bss, (xs.length : Int) ≤ 1048576) :
    Calls Try.prog 40 #[.agg #[.int .i64 R, .slice A N c, .slice B M d], .agg #[.int .i64 R, .slice A2 N c2, .slice B2 M d2]] w fun e w' => e = .returned (.bool true) ∧ Below w.heap.size w w' := by
  have S0 := Lib.hid (((St.start w).addBlk #[.int .i64 R, .slice A N c, .slice B M d] 62).addBlk #[.int .i64 R, .slice A2 N c2, .slice B2 M d2] 62)
  have HX := Lib.hid hx
  have HA := Lib.hid (ha.keep S0.out.below)
  have HA2 := Lib.hid (ha2.keep S0.out.below)
  have HY := Lib.hid hy
  have HB := Lib.hid hb
  have HB2 := Lib.hid hb2
  have HR := Lib.hid hr
  clear hx ha ha2 hy hb hb2 hr
  have a0 := (S0.out.blk (i := 0) rfl).cell (i := 0) rfl
  have a1 := (S0.out.blk (i := 0) rfl).cell (i := 1) rfl
  have b0 := (S0.out.blk (i := 1) rfl).cell (i := 0) rfl
  have b1 := (S0.out.blk (i := 1) rfl).cell (i := 1) rfl
  simp at b0 b1
  have hRR : (R == R) = true := by simp
  go_enter Try.func40, Try.ntmps40
  go_wp2_with fail
  refine (likeB (n := N) (m := N) _ HX.out HX.out HA.out HA2.out (by omega)).mono ?_
  rintro e w1 ⟨rfl, bel⟩
  rw [decide_eq_true rfl]
  have S1 := Lib.hid (S0.out.go bel)
  clear bel a0 a1 b0 b1
  have a2 := (S1.out.blk (i := 0) rfl).cell (i := 2) rfl
  have b2 := (S1.out.blk (i := 1) rfl).cell (i := 2) rfl
  simp at b2
  go_wp2_with fail
  refine (likeRows_any (n := M) (m := M) _ HY.out HY.out (HB.out.keep S1.out.below) (HB2.out.keep S1.out.below) hM hM HR.out HR.out).mono ?_
  rintro e w2 ⟨rfl, j, rfl⟩
  rw [decide_eq_true rfl]
  go_wp2
  go_ret
  exact ⟨rfl, below_drewN S1.out.below j⟩
noncomputable def metB (F G : List Int) (e f : Int) (k : Nat) : Bool := pB (∃ g : Nat, g < k ∧ F[g]? = some e ∧ G[g]? = some f)
theorem met_zero {F G : List Int} {e f : Int} : metB F G e f 0 = false := pB_false fun ⟨g, h, _⟩ => by omega
theorem met_old {F G : List Int} {e f : Int} {k : Nat} (h : metB F G e f k = true) : metB F G e f (k + 1) = true := by
  obtain ⟨g, h1, h2⟩ := pB_iff.1 h
  exact pB_true ⟨g, by omega, h2⟩
theorem met_yes {F G : List Int} {e f : Int} {k : Nat} (h1 : F[k]? = some e) (h2 : G[k]? = some f) : metB F G e f (k + 1) = true := pB_true ⟨k, by omega, h1, h2⟩
theorem met_no {F G : List Int} {e f x y : Int} {k : Nat} (h : metB F G e f k = false) (h1 : F[k]? = some x) (h2 : G[k]? = some y) (hne : ¬ (x = e ∧ y = f)) : metB F G e f (k + 1) = false := pB_false fun ⟨g, hg, h3, h4⟩ => by
  by_cases hgk : g < k
  · exact pB_no h ⟨g, hgk, h3, h4⟩
  · obtain rfl : g = k := by omega
    rw [h1] at h3
    rw [h2] at h4
    injection h3 with h3
    injection h4 with h4
    exact hne ⟨h3, h4⟩
set_option maxHeartbeats 6400000 in
set_option maxRecDepth 100000 in
theorem law_FnFacePosets {A0 : Option Addr} {c0 n0 : Nat} {bs : List Value} (w : World) (hl : bs.length = n0) (hr : Rd w A0 bs) (hu : ∀ v ∈ bs, ∃ x : Nat, v = .int .u8 x ∧ x < 256) :
    Calls Try.prog 6 #[.slice A0 n0 c0] w fun e w' => e = .returned (.bool true) ∧ Below w.heap.size w w' := by
  have HL0 := Lib.hid hl
  have HR0 := Lib.hid hr
  have HU := Lib.hid hu
  have B0 := Lib.hid (Below.refl w.heap.size w)
  clear hl hr hu
  by_cases hbig : (4096 : Int) < (n0 : Int)
  · go_enter Try.func6, Try.ntmps6
    go_wp2_with fail
    refine (big_any w).mono ?_
    rintro e wz ⟨rfl, rfl⟩
    rw [decide_eq_true (show (4096 : Int) < (n0 : Int) by omega)]
    go_wp2
    go_ret
    exact ⟨rfl, B0.out⟩
  have hn0 : n0 ≤ 1048576 := by omega
  go_enter Try.func6, Try.ntmps6
  go_wp2_with fail
  refine (big_any w).mono ?_
  rintro e wz ⟨rfl, rfl⟩
  rw [decide_eq_false (show ¬ (4096 : Int) < (n0 : Int) by omega)]
  go_wp2_with fail
  refine (drawFp w HL0.out HR0.out HU.out hn0).mono ?_
  rintro e w1 ⟨A1, N, c1, xss, rfl, hx, hN6, hrr, hcap, hc63, hrd, bel1⟩
  have HX := Lib.hid hx
  have HA := Lib.hid hrd
  have HR := Lib.hid hrr
  have B1 := Lib.hid bel1
  have hN : N ≤ 1048576 := by omega
  have S1 := Lib.hid ((St.start w1).addBlk #[.slice A1 N c1] 45)
  have hx0 := hx
  obtain ⟨R, hR⟩ : ∃ R, fpR xss = R := ⟨_, rfl⟩
  obtain ⟨X, hX⟩ : ∃ X, fpX xss = X := ⟨_, rfl⟩
  obtain ⟨Y, hY⟩ : ∃ Y, fpB xss = Y := ⟨_, rfl⟩
  obtain ⟨C, hC⟩ : ∃ C, fpC xss = C := ⟨_, rfl⟩
  obtain ⟨M, hM⟩ : ∃ M, X.length = M := ⟨_, rfl⟩
  obtain ⟨K, hK⟩ : ∃ K, Y.length = K := ⟨_, rfl⟩
  have hM4 : M ≤ 1048576 := by rw [← hM, ← hX]; exact fpX_le xss
  have hK4 : K ≤ 1048576 := by rw [← hK, ← hY]; exact (fpB_le xss).1
  have HYR := Lib.hid (show ∀ b ∈ Y, (b.length : Int) ≤ 1048576 by rw [← hY]; exact (fpB_le xss).2)
  have ERR := Lib.hid hR
  have EX := Lib.hid hX
  have EY := Lib.hid hY
  have EC := Lib.hid hC
  have EM := Lib.hid hM
  have EK := Lib.hid hK
  clear hx hrd hrr bel1 B0 hR hX hY hC hM hK
  have hb0 := (S1.out.blk (i := 0) rfl).cell (i := 0) rfl
  go_wp2_with fail
  refine (iFacePosetS_any _ HX.out (HA.out.keep S1.out.below) hN HR.out hcap hc63).mono ?_
  rw [ERR.out, EX.out, EY.out, EC.out]
  rintro e w2 ⟨A2, c2, G2, d2, v2, rfl, st_⟩
  rw [EM.out, EK.out] at st_
  rw [EM.out, EK.out]
  have S2 := Lib.hid ((S1.out.join st_).addBlk #[.int .i64 R, .slice A2 M c2, .slice G2 K d2] 62)
  clear st_ S1 hb0
  have hb0 := (S2.out.blk (i := 0) rfl).cell (i := 0) rfl
  go_wp2_with fail
  refine (sFacePosetS_any _ HX.out (HA.out.keep S2.out.below) hN HR.out).mono ?_
  rw [ERR.out, EX.out, EY.out, EC.out]
  rintro e w3 ⟨A3, c3, G3, d3, v3, rfl, st_⟩
  rw [EM.out, EK.out] at st_
  rw [EM.out, EK.out]
  have S3 := Lib.hid ((S2.out.join st_).addBlk #[.int .i64 R, .slice A3 M c3, .slice G3 K d3] 62)
  clear st_ S2 hb0
  have p0 := (S3.out.blk (i := 3) rfl).cell (i := 0) rfl
  have p1 := (S3.out.blk (i := 3) rfl).cell (i := 1) rfl
  have p2 := (S3.out.blk (i := 3) rfl).cell (i := 2) rfl
  have q0 := (S3.out.blk (i := 6) rfl).cell (i := 0) rfl
  have q1 := (S3.out.blk (i := 6) rfl).cell (i := 1) rfl
  have q2 := (S3.out.blk (i := 6) rfl).cell (i := 2) rfl
  have hne : (C != C) = false := by simp
  go_wp2_with fail
  refine (likeP_true (R := R) (N := M) (M := K) _ EM.out (own_rd (S3.out.own (i := 1) rfl)) (own_rd (S3.out.own (i := 4) rfl)) EK.out (ownSS_rd (S3.out.sep.ownSS (i := 2) rfl)) (ownSS_rd (S3.out.sep.ownSS (i := 5) rfl)) hM4 hK4 HYR.out).mono ?_
  rintro e w4 ⟨rfl, bel⟩
  have S4 := Lib.hid ((S3.out.go bel).take 4)
  clear bel S3 p0 p1 p2 q0 q1 q2 hne
  by_cases hc0 : ¬ C = 0
  · have hc1 : (C != 0) = true := by simpa using hc0
    go_wp2
    go_ret
    exact ⟨rfl, B1.out.trans (S4.out.below.mono B1.out.size)⟩
  have hc0 := Classical.not_not.1 hc0
  subst hc0
  have hall : okMan xss = true ∧ fpK xss ≤ 500 := by
    have h := EC.out
    unfold fpC at h
    split at h
    · rename_i h1
      split at h
      · rename_i h2; exact ⟨h1, h2⟩
      · omega
    · omega
  have hman := okMan_iff.1 hall.1
  have hsys := hman.sys
  have hn4 := hman.f4
  have hn2 := hman.f2
  have hN5 := hman.r5
  have hpos := hman.pos hx0
  rw [hx0] at hN5
  obtain ⟨b, o, A01, c01, rfl, hcc⟩ := man_row0 hman HA.out
  obtain ⟨n, hn⟩ : ∃ n, flN xss = n := ⟨_, rfl⟩
  have hK5 := hall.2
  unfold fpK at hK5
  rw [hx0, hn] at hK5
  obtain ⟨S, hS⟩ : ∃ S, fstE xss n N = S := ⟨_, rfl⟩
  rw [hS] at hK5
  have hRR : R = (N : Int) := by rw [← ERR.out]; unfold fpR; rw [if_pos hall, hx0]
  have hXX : X = rkL xss n N := by rw [← EX.out]; unfold fpX; rw [if_pos hall, hx0, hn]
  have hYY : Y = (List.range S).map (blwL xss n N) := by rw [← EY.out]; unfold fpB; rw [if_pos hall]; unfold fpK; rw [hx0, hn, hS]
  have hKS : K = S := by rw [← EK.out, hYY]; simp
  have hpp := fp_pos hman hx0 hn hS hK5
  rw [← hXX, ← hYY, ← hRR] at hpp
  rw [hn] at hsys hn4 hn2 hcc
  obtain ⟨Cn, hCn⟩ : ∃ Cn, cntTo xss n N = Cn := ⟨_, rfl⟩
  have hCl : Cn.length = N := by rw [← hCn]; simp [cntTo]
  have hCat : ∀ j, j < N → Cn[j]? = some ((cN xss n j : Nat) : Int) := fun j hj => by
    have := grt_fac (i := j) hsys
    rw [← hCn]
    unfold cN
    simp [cntTo, hj]
    omega
  have e1 : fcR xss = Cn ∧ manC xss = 0 := by simp [fcR, manC, hall.1, hn, hx0, hCn]
  have e2 : ecR R X Y = Cn ∧ ecC R X Y = 0 ∧ posB R X Y = true := by
    have hp := pB_true hpp
    refine ⟨?_, by simp [ecC, posB, hp], hp⟩
    unfold ecR posB
    rw [hp, if_pos rfl, hRR, hXX, Int.toNat_natCast, cnts_cnt hsys, hCn]
  have e3 : ∀ j : Nat, j < N → flR xss (j : Int) = facL xss n j ∧ flC xss (j : Int) = 0 := fun j hj => by
    have h1 : flagB N (j : Int) = true := by simp [flagB]; omega
    simp [flR, flC, hall.1, hn, hx0, h1]
  have hpo : ∀ j, j < N → 1 ≤ cN xss n j ∧ fstE xss n j + cN xss n j ≤ S := fun j hj => by
    have h1 := fE_bd (i := j) hsys (show 0 < n by omega)
    have h2 := fstE_mono (xss := xss) (n := n) (show j + 1 ≤ N by omega)
    have h3 : fstE xss n (j + 1) = fstE xss n j + cN xss n j := rfl
    omega
  have HS := Lib.hid hsys
  have HPO := Lib.hid hpo
  have HCL := Lib.hid hCl
  have HCA := Lib.hid hCat
  have E1 := Lib.hid e1
  have E2 := Lib.hid e2
  have E3 := Lib.hid e3
  have HYY := Lib.hid hYY
  have hKS1 : S ≤ K := by omega
  have hKS2 : K ≤ S := by omega
  clear hall hman hsys hcc hn hS hRR hXX hYY hpp hCn hCl hCat e1 e2 e3 hpo hKS hx0
  have hb := (S4.out.blk (i := 0) rfl).cell (i := 0) rfl
  go_wp2_with fail
  refine (iFaceCounts_any _ HX.out (HA.out.keep S4.out.below) hN HR.out hcap hc63).mono ?_
  rintro e w5 ⟨A5, c5, rfl, own, bel⟩
  rw [E1.out.1, HCL.out] at own
  rw [E1.out.1, E1.out.2, HCL.out]
  have S5 := Lib.hid (S4.out.addOwn bel own (Nat.le_refl _))
  clear own bel S4 hb
  have hb := True.intro
  have p0 := (S5.out.blk (i := 3) rfl).cell (i := 0) rfl
  have p1 := (S5.out.blk (i := 3) rfl).cell (i := 1) rfl
  have p2 := (S5.out.blk (i := 3) rfl).cell (i := 2) rfl
  go_wp2_with fail
  refine (iElementCounts_any (R := R) _ EM.out (own_rd (S5.out.own (i := 1) rfl)) EK.out (ownSS_rd (S5.out.sep.ownSS (i := 2) rfl)) hM4 hK4 HYR.out).mono ?_
  rintro e w6 ⟨A6, c6, rfl, own, bel⟩
  rw [E2.out.1, HCL.out] at own
  rw [E2.out.1, E2.out.2.1, HCL.out]
  have S6 := Lib.hid (S5.out.addOwn bel own (Nat.le_refl _))
  clear own bel S5 hb
  clear p0 p1 p2
  have RA := Lib.hid (own_rd (S6.out.own (i := 4) rfl))
  have RB := Lib.hid (own_rd (S6.out.own (i := 5) rfl))
  go_wp2_with fail
  refine (likeB (n := N) (m := N) _ HCL.out HCL.out RA.out RB.out (by omega)).mono ?_
  rintro e w7 ⟨rfl, bel⟩
  rw [decide_eq_true rfl]
  have S7 := Lib.hid (S6.out.go bel)
  clear bel S6 RA RB
  have p0 := (S7.out.blk (i := 3) rfl).cell (i := 0) rfl
  have p1 := (S7.out.blk (i := 3) rfl).cell (i := 1) rfl
  have p2 := (S7.out.blk (i := 3) rfl).cell (i := 2) rfl
  go_wp2_with fail
  refine (iPos_any (R := R) _ EM.out (own_rd (S7.out.own (i := 1) rfl)) EK.out (ownSS_rd (S7.out.sep.ownSS (i := 2) rfl)) hM4 hK4 HYR.out).mono ?_
  rintro e w8 ⟨rfl, bel⟩
  rw [E2.out.2.2]
  have S8 := Lib.hid ((S7.out.go bel).take 5)
  clear bel S7 p0 p1 p2
  have HRD := Lib.hid (HR0.out.keep (B1.out.trans (S8.out.below.mono B1.out.size)))
  go_wp2_with fail
  refine (roll_any (s := 706) _ HL0.out HRD.out HU.out hn0 (by omega) (by omega)).mono ?_
  rintro e w9 ⟨g, at', h', rfl, hg, hg1, src, bel⟩
  have D9 := Lib.hid (show SrcE w9 g A0 n0 c0 bs from ⟨at', h', src⟩)
  have B9 := Lib.hid bel
  have hbx := ((S8.out.go bel).blk (i := 0) rfl).cell (i := 0) rfl
  clear src bel HRD
  go_wp2_with fail
  refine (belowE (N := (N : Int)) _ D9.out hn0 (by omega)).mono ?_
  rintro e w10 ⟨r, rfl, ⟨h0r, h1r⟩, hs_, tu_⟩
  obtain ⟨i, rfl⟩ := Int.eq_ofNat_of_zero_le h0r
  have D10 := Lib.hid hs_
  have B10 := Lib.hid (Turns.below B9.out tu_ B9.out.size hg)
  clear hs_ tu_ B9 D9 hbx
  go_wp2_with fail
  refine (belowE (N := (N : Int)) _ D10.out hn0 (by omega)).mono ?_
  rintro e w11 ⟨r, rfl, ⟨h0r2, h1r2⟩, hs_, tu_⟩
  obtain ⟨k, rfl⟩ := Int.eq_ofNat_of_zero_le h0r2
  have D11 := Lib.hid hs_
  have B11 := Lib.hid (Turns.below B10.out tu_ B10.out.size hg)
  clear hs_ tu_ B10 D10
  have hiN : i < N := by omega
  have hkN : k < N := by omega
  by_cases hik : ¬ i < k
  · have hki : (k : Int) ≤ (i : Int) := by omega
    go_wp2
    go_ret
    exact ⟨rfl, B1.out.trans ((S8.out.go B11.out).below.mono B1.out.size)⟩
  have hik := Classical.not_not.1 hik
  have hki : ¬ (k : Int) ≤ (i : Int) := by omega
  have S11 := Lib.hid (S8.out.go B11.out)
  obtain ⟨gC, rfl⟩ := own_shape (S11.out.own (i := 4) rfl) (show 0 < N by omega)
  have HCC := Lib.hid (show ∀ j, j < N → w11.cell? ⟨gC, j, none⟩ = some (.int .i64 ((cN xss n j : Nat) : Int)) from fun j hj => own_cell (S11.out.own (i := 4) rfl) (by simp [HCA.out j hj]))
  go_wp2
  go_loopw [16, 17, 18] (fun u v x wr => ∃ j : Nat, j ≤ k ∧ u = .int .i64 (fstE xss n (min j i) : Nat) ∧ v = .int .i64 (fstE xss n j : Nat) ∧ x = .int .i64 j ∧ wr = w11) (fun _ _ x _ => k - (intOf x).toNat)
  case atStart => exact ⟨0, Nat.zero_le _, by simp [fstE], rfl, rfl, rfl⟩
  case round =>
    obtain ⟨j, hj, rfl, rfl, rfl, rfl⟩ := hrel
    by_cases hjk : j < k
    · have jI : (j : Int) < (k : Int) := by omega
      have jN : (j : Int) < (N : Int) := by omega
      have cj := HCC.out j (by omega)
      obtain ⟨hp1, hp2⟩ := HPO.out j (by omega)
      obtain ⟨cj0, hcj0⟩ : ∃ z, cN xss n j = z := ⟨_, rfl⟩
      obtain ⟨hj0, hhj⟩ : ∃ z, fstE xss n j = z := ⟨_, rfl⟩
      have hnx : fstE xss n (j + 1) = hj0 + cj0 := by rw [← hhj, ← hcj0]; rfl
      rw [hcj0] at cj hp1 hp2
      rw [hhj] at hp2
      rw [hhj]
      have q1 : IntKind.i64.wrap ((hj0 : Int) + (cj0 : Int)) = ((hj0 + cj0 : Nat) : Int) := (IntWalk.i64_in _ (by omega)).trans (by omega)
      have HNX := Lib.hid hnx
      by_cases hji : j < i
      · have jiI : (j : Int) < (i : Int) := by omega
        have m1 : min j i = j := by omega
        have m2 : min (j + 1) i = j + 1 := by omega
        have M2 := Lib.hid (show fstE xss n (min (j + 1) i) = hj0 + cj0 by rw [m2, hnx])
        rw [m1, hhj]
        clear hnx hcj0 hhj m1 m2
        go_wp2
        go_roundw
        case rel => exact ⟨j + 1, by omega, by rw [M2.out]; first | done | rfl, by rw [HNX.out]; first | done | rfl, by go_num, by first | trivial | rfl⟩
        case measure => simp [intOf]; omega
      · have jiI : ¬ (j : Int) < (i : Int) := by omega
        have m1 : min j i = i := by omega
        have m2 : min (j + 1) i = i := by omega
        have M2 := Lib.hid (show fstE xss n (min (j + 1) i) = fstE xss n i by rw [m2])
        rw [m1]
        clear hnx hcj0 hhj m1 m2
        go_wp2
        go_roundw
        case rel => exact ⟨j + 1, by omega, by rw [M2.out]; first | done | rfl, by rw [HNX.out]; first | done | rfl, by go_num, by first | trivial | rfl⟩
        case measure => simp [intOf]; omega
    · obtain rfl : j = k := by omega
      have m1 : min j i = i := by omega
      rw [m1]
      clear m1
      obtain ⟨ci, hci⟩ : ∃ z, cN xss n i = z := ⟨_, rfl⟩
      obtain ⟨ck, hck⟩ : ∃ z, cN xss n j = z := ⟨_, rfl⟩
      obtain ⟨lo, hlo⟩ : ∃ z, fstE xss n i = z := ⟨_, rfl⟩
      obtain ⟨hi, hhi⟩ : ∃ z, fstE xss n j = z := ⟨_, rfl⟩
      obtain ⟨p1i, p2i⟩ := HPO.out i hiN
      obtain ⟨p1k, p2k⟩ := HPO.out j hkN
      have ceI := HCC.out i hiN
      have ckI := HCC.out j hkN
      rw [hci] at p1i p2i ceI
      rw [hck] at p1k p2k ckI
      rw [hlo] at p2i
      rw [hhi] at p2k
      rw [hlo, hhi]
      have HCI := Lib.hid hci
      have HCK := Lib.hid hck
      have HLO := Lib.hid hlo
      have HHI := Lib.hid hhi
      have iI : (i : Int) < (N : Int) := by omega
      have kI : (j : Int) < (N : Int) := by omega
      clear hci hck hlo hhi
      have D11b := Lib.hid (Dr.start D11.out)
      have T11 := Lib.hid (St.start wr)
      have Td := Lib.hid (T11.out.go (below_drewN (Below.refl _ _) 1))
      have Bd := Lib.hid (below_drewN B11.out 1)
      have CKC := Lib.hid (show Cn[j]? = some (ck : Int) by rw [HCA.out j hkN, HCK.out])
      go_wp2
      go_region_law ((first
        | (refine step_call rfl 19 #[.tmp 113, .tmp 117] #[31, 2] (by rfl) Try.func19 (by rfl) (by rfl) #[.pointer (some ⟨g, 0, none⟩), .int .i64 (ci : Int)] (by first | (simp [Act.eval]; done) | simp [Act.eval, Act.put]) _ (belowE (N := (ci : Int)) _ (D11b.out.now Td.out) hn0 (by omega)) ?_
           rintro e w12 ⟨r, rfl, ⟨h0a, h1a⟩, hs_, tu_⟩
           refine ⟨_, rfl, ?_⟩
           obtain ⟨wb12, d_, st_⟩ := D11b.out.num Td.out hs_ tu_
           obtain ⟨a, rfl⟩ := Int.eq_ofNat_of_zero_le h0a
           have D12 := Lib.hid d_
           have T12 := Lib.hid st_
           have B12 := Lib.hid (Turns.below Bd.out tu_ Bd.out.size hg)
           have ck12 := own_cell ((S8.out.go B12.out).own (i := 4) rfl) (show (ints Cn)[j]? = some (.int .i64 (ck : Int)) by simp [CKC.out])
           clear d_ st_ hs_ tu_)
        | (refine step_call rfl 19 #[.tmp 119, .tmp 123] #[31, 2] (by rfl) Try.func19 (by rfl) (by rfl) #[.pointer (some ⟨g, 0, none⟩), .int .i64 (ck : Int)] (by first | (simp [Act.eval]; done) | simp [Act.eval, Act.put]) _ (belowE (N := (ck : Int)) _ (D12.out.now T12.out) hn0 (by omega)) ?_
           rintro e w13 ⟨r, rfl, ⟨h0b, h1b⟩, hs_, tu_⟩
           refine ⟨_, rfl, ?_⟩
           obtain ⟨c, rfl⟩ := Int.eq_ofNat_of_zero_le h0b
           have B13 := Lib.hid (Turns.below B12.out tu_ B12.out.size hg)
           clear hs_ tu_)))
      all_goals
        have S13 := Lib.hid (S8.out.go B13.out)
        have hbx := (S13.out.blk (i := 0) rfl).cell (i := 0) rfl
        clear S11 D11b T11 Td Bd HCC
        go_wp2_with fail
        refine (iFaceLabels_any (i : Int) _ HX.out (HA.out.keep S13.out.below) hN HR.out hcap hc63).mono ?_
        rintro e w14 ⟨A14, c14, rfl, own, bel⟩
        rw [(E3.out i hiN).1, facL_len] at own
        rw [(E3.out i hiN).1, (E3.out i hiN).2, facL_len]
        have S14 := Lib.hid (S13.out.addOwn bel own (Nat.le_refl _))
        clear own bel S13 hbx
        have hbx := (S14.out.blk (i := 0) rfl).cell (i := 0) rfl
        go_wp2_with fail
        refine (iFaceLabels_any (j : Int) _ HX.out (HA.out.keep S14.out.below) hN HR.out hcap hc63).mono ?_
        rintro e w15 ⟨A15, c15, rfl, own, bel⟩
        rw [(E3.out j hkN).1, facL_len] at own
        rw [(E3.out j hkN).1, (E3.out j hkN).2, facL_len]
        have S15 := Lib.hid (S14.out.addOwn bel own (Nat.le_refl _))
        clear own bel S14 hbx
        obtain ⟨F1, hF1⟩ : ∃ F, facL xss n i = F := ⟨_, rfl⟩
        obtain ⟨F2, hF2⟩ : ∃ F, facL xss n j = F := ⟨_, rfl⟩
        have L1 := Lib.hid (show F1.length = n by rw [← hF1]; exact facL_len _ _ _)
        have L2 := Lib.hid (show F2.length = n by rw [← hF2]; exact facL_len _ _ _)
        obtain ⟨hf, hhf⟩ : ∃ z, hi + c = z := ⟨_, rfl⟩
        obtain ⟨lf, hlf⟩ : ∃ z, lo + a = z := ⟨_, rfl⟩
        have hfK : hf < K := by omega
        have INC := Lib.hid (show decide ((lf : Int) ∈ blwL xss n N hf) = metB F1 F2 (a : Int) (c : Int) n by
          have h := fp_inc (e := a) (f := c) HS.out hik hkN (by rw [HCI.out]; omega) (by rw [HCK.out]; omega)
          rw [HLO.out, HHI.out, hhf, hlf, hF1, hF2] at h
          unfold metB
          cases hb : pB (∃ g : Nat, g < n ∧ F1[g]? = some (a : Int) ∧ F2[g]? = some (c : Int))
          · exact decide_eq_false fun hm => pB_no hb (h.1 hm)
          · exact decide_eq_true (h.2 (pB_iff.1 hb)))
        have q1 : IntKind.i64.wrap ((hi : Int) + (c : Int)) = (hf : Int) := (IntWalk.i64_in _ (by omega)).trans (by omega)
        have q2 : IntKind.i64.wrap ((lo : Int) + (a : Int)) = (lf : Int) := (IntWalk.i64_in _ (by omega)).trans (by omega)
        have q3 : ¬ (K : Int) ≤ (hf : Int) := by omega
        have q4 : (hf : Int) < (K : Int) := by omega
        rw [hF1, hF2] at S15
        obtain ⟨g1, rfl⟩ := own_shape (S15.out.own (i := 5) rfl) (show 0 < n by omega)
        obtain ⟨g2, rfl⟩ := own_shape (S15.out.own (i := 6) rfl) (show 0 < n by omega)
        have p2 := (S15.out.blk (i := 3) rfl).cell (i := 2) rfl
        have hnn : ((n : Int) != (n : Int)) = false := by simp
        clear hF1 hF2 hhf hlf
        go_wp2
        clear hnn p2
        go_loopw [25, 26] (fun u v wr => ∃ t : Nat, t ≤ n ∧ u = .bool (metB F1 F2 (a : Int) (c : Int) t) ∧ v = .int .i64 t ∧ wr = w15) (fun _ v _ => n - (intOf v).toNat)
        case atStart => exact ⟨0, Nat.zero_le _, by rw [met_zero], rfl, rfl⟩
        case round =>
          obtain ⟨t, ht, rfl, rfl, rfl⟩ := hrel
          by_cases htn : t < n
          · have tI : (t : Int) < (n : Int) := by omega
            obtain ⟨x, hx⟩ : ∃ x, F1[t]? = some x := ⟨_, List.getElem?_eq_getElem (by rw [L1.out]; exact htn)⟩
            obtain ⟨y, hy⟩ : ∃ y, F2[t]? = some y := ⟨_, List.getElem?_eq_getElem (by rw [L2.out]; exact htn)⟩
            have cx := own_cell (S15.out.own (i := 5) rfl) (show (ints F1)[t]? = some (.int .i64 x) by simp [hx])
            have cy := own_cell (S15.out.own (i := 6) rfl) (show (ints F2)[t]? = some (.int .i64 y) by simp [hy])
            cases hm : metB F1 F2 (a : Int) (c : Int) t
            · by_cases h1 : x = (a : Int)
              · have hb1 : (x == (a : Int)) = true := by rw [beq_iff_eq]; exact h1
                by_cases h2 : y = (c : Int)
                · have hb2 : (y == (c : Int)) = true := by rw [beq_iff_eq]; exact h2
                  have HM := Lib.hid (met_yes (F := F1) (G := F2) (e := (a : Int)) (f := (c : Int)) (k := t) (by rw [hx, h1]) (by rw [hy, h2]))
                  clear hx hy hm h1 h2
                  go_wp2
                  go_roundw
                  case rel => exact ⟨t + 1, by omega, by rw [HM.out], by go_num, by first | trivial | rfl⟩
                  case measure => simp [intOf]; omega
                · have hb2 : (y == (c : Int)) = false := by rw [beq_eq_false_iff_ne]; exact h2
                  have HM := Lib.hid (met_no hm hx hy (fun h => h2 h.2))
                  clear hx hy hm h1 h2
                  go_wp2
                  go_roundw
                  case rel => exact ⟨t + 1, by omega, by rw [HM.out], by go_num, by first | trivial | rfl⟩
                  case measure => simp [intOf]; omega
              · have hb1 : (x == (a : Int)) = false := by rw [beq_eq_false_iff_ne]; exact h1
                have HM := Lib.hid (met_no hm hx hy (fun h => h1 h.1))
                clear hx hy hm h1
                go_wp2
                go_roundw
                case rel => exact ⟨t + 1, by omega, by rw [HM.out], by go_num, by first | trivial | rfl⟩
                case measure => simp [intOf]; omega
            · have HM := Lib.hid (met_old hm)
              clear hx hy hm
              go_wp2
              go_roundw
              case rel => exact ⟨t + 1, by omega, by rw [HM.out], by go_num, by first | trivial | rfl⟩
              case measure => simp [intOf]; omega
          · obtain rfl : t = n := by omega
            obtain ⟨Mv, hMv⟩ : ∃ m, metB F1 F2 (a : Int) (c : Int) t = m := ⟨_, rfl⟩
            have hin := INC.out
            rw [hMv] at hin ⊢
            obtain ⟨bY, oY, AY, cY, row, rfl, hgy, hcy, hry, _⟩ := (ownSS_rd (S15.out.sep.ownSS (i := 2) rfl)).row (k := hf) (by rw [EK.out]; exact hfK)
            have hrow : row = blwL xss t N hf := by
              have h := hgy
              rw [HYY.out, List.getElem?_map, List.getElem?_range (by omega)] at h
              exact (Option.some.inj h).symm
            rw [← hrow] at hin
            have hrl := HYR.out row (List.mem_of_getElem? hgy)
            obtain ⟨m, hm⟩ : ∃ m, row.length = m := ⟨_, rfl⟩
            rw [hm] at hcy hrl
            have HM := Lib.hid hm
            have HRW := Lib.hid hry
            have HIN := Lib.hid hin
            have hm2 : m ≤ 1048576 := by omega
            have p2 := (S15.out.blk (i := 3) rfl).cell (i := 2) rfl
            clear hgy hrow hm hry hin hMv
            go_wp2_with fail
            refine (hasInt_any (lf : Int) _ HM.out HRW.out hm2 HIN.out).mono ?_
            rintro e w16 ⟨rfl, jj, rfl⟩
            go_wp2
            go_ret
            exact ⟨ret_bool (by simp), B1.out.trans (below_drewN (S15.out.below.mono B1.out.size) jj)⟩
theorem walk_FnFacePosets (a0 : Option Addr) (len0 cap0 : Nat) (z0 : List Int) (w : World) (w0 : IsRow .u8 w a0 len0 cap0 z0) :
    Calls Try.prog 6 #[.slice a0 len0 cap0] w fun e w' => e = .returned (.bool true) ∧ Below w.heap.size w w' := by
  obtain ⟨bs, h1, h2, h3⟩ := isRow_u8 w0
  exact law_FnFacePosets w h1 h2 h3
end Go.Proofs.Ytmfddenjemoedaa
