import Derived.Test.YtckmmgepoccopaaFl3
import Derived.Test.YtckmmgepoccopaaLk
import Derived.Test.YtckmmgepoccopaaFsg
import Derived.Test.YtckmmgepoccopaaL11
import Derived.Test.YtckmmgepoccopaaSeb
import Derived.Test.YtckmmgepoccopaaIsf
import Derived.BigQuiet
namespace Go.Proofs.Ytckmmgepoccopaa
open Go.RowKit

theorem cell_s3f {w W : World} {b o p q b0 o0 : Nat} {u v x : Value} (h0 : w.cell? ⟨b0, o0, none⟩ = some x) (h : Below w.heap.size w W ∧ W.cell? ⟨p, q, none⟩ = some v ∧ W.cell? ⟨b, o, none⟩ = some u) : W.cell? ⟨b0, o0, none⟩ = some x := cell_be h0 h.1
set_option maxHeartbeats 6400000 in
set_option maxRecDepth 100000 in
theorem law_FnFaceSections {A0 : Option Addr} {c0 n0 : Nat} {bs : List Value} (w : World) (hl : bs.length = n0) (hr : Rd w A0 bs) (hu : ∀ v ∈ bs, ∃ x : Nat, v = .int .u8 x ∧ x < 256) :
    Calls Try.prog 7 #[.slice A0 n0 c0] w fun e w' => e = .returned (.bool true) ∧ Below w.heap.size w w' := by
  have HL0 := Lib.hid hl
  have HR0 := Lib.hid hr
  have HU := Lib.hid hu
  have B0 := Lib.hid (Below.refl w.heap.size w)
  clear hl hr hu
  by_cases hbig : (4096 : Int) < (n0 : Int)
  · go_enter Try.func7, Try.ntmps7
    go_wp2_with fail
    refine (big_any w).mono ?_
    rintro e wz ⟨rfl, rfl⟩
    rw [decide_eq_true (show (4096 : Int) < (n0 : Int) by omega)]
    go_wp2
    go_ret
    exact ⟨rfl, B0.out⟩
  have hn0 : n0 ≤ 1048576 := by omega
  go_enter Try.func7, Try.ntmps7
  go_wp2_with fail
  refine (big_any w).mono ?_
  rintro e wz ⟨rfl, rfl⟩
  rw [decide_eq_false (show ¬ (4096 : Int) < (n0 : Int) by omega)]
  go_wp2_with fail
  refine (drawFA w HL0.out HR0.out HU.out hn0).mono ?_
  rintro e w1 ⟨A1, N, c1, xss, k1, y, rfl, hx, hN6, hrr, hcap, hc63, hrd, bel1⟩
  have HX := Lib.hid hx
  have HA := Lib.hid hrd
  have HR := Lib.hid hrr
  have B1 := Lib.hid bel1
  have hN : N ≤ 1048576 := by omega
  have S1 := Lib.hid ((St.start w1).addBlk #[.slice A1 N c1] 26)
  have hx0 := hx
  obtain ⟨hr1, hr2⟩ := fmR_le xss k1 y
  obtain ⟨hr3, hr4⟩ := cmR_le xss k1 y
  have hz0 := @fcC_zeroE xss k1 y
  obtain ⟨L1, hL1⟩ : ∃ L, fmR xss k1 y = L := ⟨_, rfl⟩
  obtain ⟨C1, hC1⟩ : ∃ C, fcC xss k1 y 0 = C := ⟨_, rfl⟩
  obtain ⟨R1, hR1⟩ : ∃ R, L1.length = R := ⟨_, rfl⟩
  obtain ⟨L2, hL2⟩ : ∃ L, cmR xss k1 y = L := ⟨_, rfl⟩
  obtain ⟨C2, hC2⟩ : ∃ C, cmC xss k1 y = C := ⟨_, rfl⟩
  obtain ⟨R2, hR2⟩ : ∃ R, L2.length = R := ⟨_, rfl⟩
  rw [hL1] at hr1 hr2 hz0
  rw [hL2] at hr3 hr4 hz0
  rw [hR1] at hr1
  rw [hR2] at hr3
  rw [hC1, hC2] at hz0
  have HLR := Lib.hid hr2
  have HLT := Lib.hid hr4
  have EL1 := Lib.hid hL1
  have EC1 := Lib.hid hC1
  have ER1 := Lib.hid hR1
  have EL2 := Lib.hid hL2
  have EC2 := Lib.hid hC2
  have ER2 := Lib.hid hR2
  have HZ := Lib.hid hz0
  clear hx hrd hrr bel1 B0 hL1 hC1 hR1 hL2 hC2 hR2 hz0 hr2 hr4 HR0
  have hb0 := (S1.out.blk (i := 0) rfl).cell (i := 0) rfl
  go_wp2_with fail
  refine (iFaceAsManiplex_any k1 y _ HX.out (HA.out.keep S1.out.below) hN HR.out hcap hc63).mono ?_
  rintro e w2 ⟨A2, c2, rfl, own, bel⟩
  rw [EL1.out, ER1.out] at own
  rw [EL1.out, EC1.out, ER1.out]
  obtain ⟨v2, st_⟩ := S1.out.addRows bel own (Nat.le_refl _) (Nat.le_refl _)
  have S2 := Lib.hid (st_.addBlk #[.slice A2 R1 c2] 26)
  clear bel own st_ S1 hb0
  have hb0 := (S2.out.blk (i := 0) rfl).cell (i := 0) rfl
  go_wp2_with fail
  refine (sFaceAsManiplex_any k1 y _ HX.out (HA.out.keep S2.out.below) hN HR.out hcap hc63).mono ?_
  rintro e w3 ⟨A3, c3, rfl, own, bel⟩
  rw [EL1.out, ER1.out] at own
  rw [EL1.out, EC1.out, ER1.out]
  obtain ⟨v3, st_⟩ := S2.out.addRows bel own (Nat.le_refl _) (Nat.le_refl _)
  have S3 := Lib.hid (st_.addBlk #[.slice A3 R1 c3] 26)
  clear bel own st_ S2 hb0
  have hne : (C1 != C1) = false := by simp
  have hbi := (S3.out.blk (i := 2) rfl).cell (i := 0) rfl
  have hbj := (S3.out.blk (i := 4) rfl).cell (i := 0) rfl
  have RI := Lib.hid (ownSS_rd (S3.out.sep.ownSS (i := 1) rfl))
  have RJ := Lib.hid (ownSS_rd (S3.out.sep.ownSS (i := 3) rfl))
  go_wp2_with fail
  refine (like5_any (n := R1) (m := R1) (xss := L1) (yss := L1) (r := true) _ ER1.out ER1.out RI.out RJ.out (by omega) (by omega) HLR.out HLR.out (decide_eq_true rfl)).mono ?_
  rintro e w4 ⟨rfl, bel⟩
  have S4 := Lib.hid (S3.out.go bel)
  clear bel S3 RI RJ hbi hbj
  have S5 := Lib.hid (S4.out.take 3)
  clear S4 hne
  have hb0 := (S5.out.blk (i := 0) rfl).cell (i := 0) rfl
  go_wp2_with fail
  refine (iCofaceAsManiplex_any k1 y _ HX.out (HA.out.keep S5.out.below) hN HR.out hcap hc63).mono ?_
  rintro e w6 ⟨A6, c6, rfl, own, bel⟩
  rw [EL2.out, ER2.out] at own
  rw [EL2.out, EC2.out, ER2.out]
  obtain ⟨v6, st_⟩ := S5.out.addRows bel own (Nat.le_refl _) (Nat.le_refl _)
  have S6 := Lib.hid (st_.addBlk #[.slice A6 R2 c6] 26)
  clear bel own st_ S5 hb0
  have hb0 := (S6.out.blk (i := 0) rfl).cell (i := 0) rfl
  go_wp2_with fail
  refine (sCofaceAsManiplex_any k1 y _ HX.out (HA.out.keep S6.out.below) hN HR.out hcap hc63).mono ?_
  rintro e w7 ⟨A7, c7, rfl, own, bel⟩
  rw [EL2.out, ER2.out] at own
  rw [EL2.out, EC2.out, ER2.out]
  obtain ⟨v7, st_⟩ := S6.out.addRows bel own (Nat.le_refl _) (Nat.le_refl _)
  have S7 := Lib.hid (st_.addBlk #[.slice A7 R2 c7] 26)
  clear bel own st_ S6 hb0
  have hne : (C2 != C2) = false := by simp
  have hbi := (S7.out.blk (i := 4) rfl).cell (i := 0) rfl
  have hbj := (S7.out.blk (i := 6) rfl).cell (i := 0) rfl
  have RI := Lib.hid (ownSS_rd (S7.out.sep.ownSS (i := 3) rfl))
  have RJ := Lib.hid (ownSS_rd (S7.out.sep.ownSS (i := 5) rfl))
  go_wp2_with fail
  refine (like5_any (n := R2) (m := R2) (xss := L2) (yss := L2) (r := true) _ ER2.out ER2.out RI.out RJ.out (by omega) (by omega) HLT.out HLT.out (decide_eq_true rfl)).mono ?_
  rintro e w8 ⟨rfl, bel⟩
  have S8 := Lib.hid (S7.out.go bel)
  clear bel S7 RI RJ hbi hbj
  have S9 := Lib.hid (S8.out.take 5)
  clear S8 hne
  by_cases hc0 : ¬ C1 = 0
  · have hc1 : (C1 != 0) = true := by simpa using hc0
    go_wp2
    go_ret
    exact ⟨rfl, B1.out.trans (S9.out.below.mono B1.out.size)⟩
  have hc0 := Classical.not_not.1 hc0
  subst hc0
  obtain ⟨i, rfl, hi0, hi, hman, hix, hL1, hC2, hL2⟩ := HZ.out rfl
  rw [hx0] at hi hC2 hL2
  obtain ⟨f0, cnt, fs, ft, ff⟩ := face_law hman hx0 hi0 hi hix
  have hfx := ff.ix
  rw [hfx, Int.toNat_natCast] at hL1
  have hsys := hman.sys
  have hn4 := hman.f4
  have hn2 := hman.f2
  have hpos := hman.pos hx0
  obtain ⟨b, o, A01, c01, rfl, hc0⟩ := man_row0 hman HA.out
  have e1 : flR xss (i : Int) = facL xss (flN xss) i ∧ flC xss (i : Int) = 0 := by
    have h1 : flagB xss.length (i : Int) = true := by rw [hx0]; simp [flagB]; omega
    have h2 := okMan_true hman
    simp [flR, flC, h1, h2]
  have hsec : ∀ z : Nat, z < flN xss → scC xss (z : Int) 0 ((i - 1 : Nat) : Int) = 0 ∧ scR xss (z : Int) 0 ((i - 1 : Nat) : Int) = secAt xss z 0 (i - 1) ∧ (secAt xss z 0 (i - 1)).length = i ∧ ∀ xs ∈ secAt xss z 0 (i - 1), (xs.length : Int) ≤ 1048576 := fun z hz => by
    have h1 := scC_ok (a := 0) (b := i - 1) hman hz (by omega) (by rw [hx0]; omega)
    refine ⟨h1.1, h1.2, ?_, secAt_row hman hz⟩
    rw [(sec_facts hman hz (i := 0) (k := i - 1) (by omega) (by rw [hx0]; omega)).len]
    omega
  have hR1i : R1 = i := by
    rw [← ER1.out, hL1]
    exact (hsec f0 ff.fn).2.2.1
  have hlab : ∀ x ∈ facL xss (flN xss) i, 0 ≤ x := fun x hx => (labL_in (okSys_erase hsys i) x hx).1
  obtain ⟨n, hn⟩ : ∃ n, flN xss = n := ⟨_, rfl⟩
  rw [hn] at ff hc0 hsys hn4 hn2 e1 hsec hlab
  obtain ⟨F, hF⟩ : ∃ F, facL xss n i = F := ⟨_, rfl⟩
  have hFl : F.length = n := by rw [← hF]; exact facL_len _ _ _
  have h1 := ff.cn
  have h2 := ff.sf
  have h3 := ff.so
  have h4 := ff.tf
  have h5 := ff.last
  have hcp := ff.cp
  have hc4 := ff.c4
  have hsp := ff.sp
  have hs4 := ff.s4
  have ht4 := ff.t4
  rw [hF] at h1 h3 e1
  rw [← hL1] at h2
  obtain ⟨i1, hi1⟩ : ∃ i1, i - 1 = i1 := ⟨_, rfl⟩
  have hi1I : (i : Int) - 1 = (i1 : Int) := by omega
  rw [hi1] at h3 hsec
  have E1 := Lib.hid e1
  have HS := Lib.hid hsys
  have HC0 := Lib.hid hc0
  have HFL := Lib.hid hFl
  have HCN := Lib.hid h1
  have HSF := Lib.hid h2
  have HSO := Lib.hid h3
  have HSEC := Lib.hid hsec
  have hR1p : 0 < R1 := by omega
  have q1 : IntKind.i64.wrap ((i : Int) - 1) = (i1 : Int) := (IntWalk.i64_in _ (by omega)).trans hi1I
  have HTF := Lib.hid (show i + 1 ≠ N → C2 = 0 ∧ 0 < R2 ∧ flN L2 = ft ∧ 0 < ft ∧ fs ∣ cnt ∧ ft ∣ cnt ∧ cnt ≤ fs * ft from fun h => by
    obtain ⟨g1, g2, g3, g4, g5⟩ := h4 (by omega)
    have hl2 := hL2 h
    rw [hfx, Int.toNat_natCast] at hl2
    refine ⟨by rw [hC2, if_neg h], ?_, by rw [hl2]; exact g1, g2, g3, g4, g5⟩
    rw [← ER2.out, hl2]
    have := (sec_facts hman (f := f0) (i := i + 1) (k := N - 1) (by rw [hn]; exact ff.fn) (by omega) (by omega)).len
    omega)
  have HLS := Lib.hid (show i + 1 = N → C2 = 5 ∧ cnt = fs from fun h => ⟨by rw [hC2, if_pos h], h5 h⟩)
  have hi5 : i ≤ 5 := by omega
  clear HZ hman hix hL1 hL2 hC2 ff hfx hx0 e1 hsys hc0 hFl h1 h2 h3 h4 h5 hsec hlab hn hF hi1 hi1I hR1i
  have hbx := (S9.out.blk (i := 0) rfl).cell (i := 0) rfl
  go_wp2_with fail
  refine (iFaceLabels_any (i : Int) _ HX.out (HA.out.keep S9.out.below) hN HR.out hcap hc63).mono ?_
  rintro e w10 ⟨A10, c10, rfl, own, bel⟩
  rw [E1.out.1, HFL.out] at own
  rw [E1.out.1, E1.out.2, HFL.out]
  have S10 := Lib.hid (S9.out.addOwn bel own (Nat.le_refl _))
  clear bel own hbx S9
  have hbx := (S10.out.blk (i := 0) rfl).cell (i := 0) rfl
  go_wp2_with fail
  refine (flags5_any (n := n) (c0 := c01) (A0 := A01) _ hpos (cell_be HC0.out S10.out.below)).mono ?_
  rintro e w11 ⟨rfl, bel⟩
  have S11 := Lib.hid (S10.out.go bel)
  clear bel hbx S10
  have hnn : ((n : Int) != (n : Int)) = false := by simp
  obtain ⟨gF, rfl⟩ := own_shape (S11.out.own (i := 5) rfl) (show 0 < n by omega)
  go_wp2
  clear hnn
  go_loopw [16, 17, 18] (fun u v x wr => ∃ (f sz : Nat) (la : Int), f ≤ n ∧ u = .int .i64 sz ∧ v = .int .i64 la ∧ x = .int .i64 f ∧ sz = (F.take f).count y ∧ sz ≤ f ∧ ((sz = 0 ∧ la = -1) ∨ ∃ z : Nat, la = z ∧ z < n ∧ F[z]? = some y) ∧ St w1 wr [.blk w1.heap.size #[.slice (some ⟨b, o, none⟩) N c1] 26, .rows 2 28 A2 R1 c2 v2 L1, .blk w2.heap.size #[.slice A2 R1 c2] 26, .rows 2 28 A6 R2 c6 v6 L2, .blk w6.heap.size #[.slice A6 R2 c6] 26, .own 2 (some ⟨gF, 0, none⟩) n c10 (ints F)]) (fun _ _ x _ => n - (intOf x).toNat)
  case atStart => exact ⟨0, 0, -1, Nat.zero_le _, rfl, rfl, rfl, by simp, Nat.le_refl _, .inl ⟨rfl, rfl⟩, S11.out⟩
  case round =>
    obtain ⟨f, sz, la, hf, rfl, rfl, rfl, hsz, hszf, hla, st⟩ := hrel
    have HSZ := Lib.hid hsz
    have HLA := Lib.hid hla
    have S12 := Lib.hid st
    clear S11 st hsz hla
    have hbx := (S12.out.blk (i := 0) rfl).cell (i := 0) rfl
    go_wp2_with fail
    refine (flags5_any (n := n) (c0 := c01) (A0 := A01) _ hpos (cell_be HC0.out S12.out.below)).mono ?_
    rintro e w13 ⟨rfl, bel⟩
    have S13 := Lib.hid (S12.out.go bel)
    clear bel hbx S12
    by_cases hfn : f < n
    · have fI : (f : Int) < (n : Int) := by omega
      obtain ⟨x, hx⟩ : ∃ x, F[f]? = some x := ⟨_, List.getElem?_eq_getElem (by rw [HFL.out]; exact hfn)⟩
      have cx := own_cell (S13.out.own (i := 5) rfl) (show (ints F)[f]? = some (.int .i64 x) by simp [hx])
      have hcs := count_succ (y := y) hx
      by_cases hxy : x = y
      · subst hxy
        have hb : (x == x) = true := by simp
        have HC := Lib.hid (show sz + 1 = (F.take (f + 1)).count x by rw [hcs, if_pos rfl, HSZ.out])
        have HX2 := Lib.hid hx
        clear hx hcs
        go_wp2
        go_roundw
        case rel => exact ⟨f + 1, sz + 1, (f : Int), by omega, by go_num, rfl, by go_num, HC.out, by omega, .inr ⟨f, rfl, hfn, HX2.out⟩, S13.out⟩
        case measure => simp [intOf]; omega
      · have hb : (x == y) = false := by rw [beq_eq_false_iff_ne]; exact hxy
        have HC := Lib.hid (show sz = (F.take (f + 1)).count y by rw [hcs, if_neg hxy, HSZ.out, Nat.add_zero])
        clear hx hcs
        go_wp2
        go_roundw
        case rel => exact ⟨f + 1, sz, la, by omega, rfl, rfl, by go_num, HC.out, by omega, HLA.out, S13.out⟩
        case measure => simp [intOf]; omega
    · obtain rfl : f = n := by omega
      have hszc : sz = cnt := by rw [HSZ.out, ← HCN.out, List.take_of_length_le (by rw [HFL.out]; exact Nat.le_refl _)]
      subst hszc
      obtain ⟨z, rfl, hz, hzF⟩ : ∃ z : Nat, la = z ∧ z < f ∧ F[z]? = some y := by
        rcases HLA.out with ⟨h, _⟩ | h
        · omega
        · exact h
      have hsz := HSO.out z hz hzF
      obtain ⟨g1, g2, g3, g4⟩ := HSEC.out z hz
      obtain ⟨X, hX⟩ : ∃ X, secAt xss z 0 i1 = X := ⟨_, rfl⟩
      rw [hX] at g2 g3 g4 hsz
      have G1 := Lib.hid g1
      have G2 := Lib.hid g2
      have G3 := Lib.hid g3
      have HSX := Lib.hid hsz
      clear g1 g2 g3 g4 hX hsz HLA HSZ hzF hszf
      have hb0 := (S13.out.blk (i := 0) rfl).cell (i := 0) rfl
      go_wp2_with fail
      refine (iSectionAt_any (z : Int) 0 (i1 : Int) _ HX.out (HA.out.keep S13.out.below) hN HR.out hcap hc63).mono ?_
      rintro e w14 ⟨A14, c14, rfl, own, bel⟩
      rw [G2.out, G3.out] at own
      rw [G2.out, G1.out, G3.out]
      obtain ⟨v14, st_⟩ := S13.out.addRows bel own (Nat.le_refl _) (Nat.le_refl _)
      have S14 := Lib.hid (st_.addBlk #[.slice A14 i c14] 26)
      clear bel own st_ S13 hb0
      obtain ⟨bs, os, Bs, ds, xss, rfl, hgs, hcls, _, _⟩ := (ownSS_rd (S14.out.sep.ownSS (i := 1) rfl)).row (k := 0) (by rw [ER1.out]; omega)
      rw [← fl_of hgs, Nat.add_zero, HSF.out] at hcls
      clear hgs
      obtain ⟨bx, ox, Bx, dx, xsx, rfl, hgx, hclx, _, _⟩ := (ownSS_rd (S14.out.sep.ownSS (i := 6) rfl)).row (k := 0) (by rw [G3.out]; omega)
      rw [← fl_of hgx, Nat.add_zero, HSX.out] at hclx
      clear hgx
      have hbs := (S14.out.blk (i := 2) rfl).cell (i := 0) rfl
      have hbt := (S14.out.blk (i := 4) rfl).cell (i := 0) rfl
      have hbo := (S14.out.blk (i := 7) rfl).cell (i := 0) rfl
      obtain ⟨W, hW⟩ : ∃ W, W = w14.alloc (.cells #[.slice (some ⟨bx, ox, none⟩) i c14] 26) := ⟨_, rfl⟩
      rw [← hW] at hcls hclx hbs hbt hbo
      have SW := Lib.hid (show St w1 W _ by rw [hW]; exact S14.out)
      have HW := Lib.hid hW
      have HCS := Lib.hid hcls
      have HCX := Lib.hid hclx
      clear S14 hW hcls hclx
      have hff : ((fs : Int) != (fs : Int)) = false := by simp
      go_wp2
      rw [← HW.out]
      go_region_held3 (fun w' => Below W.heap.size W w' ∧ w'.cell? ⟨w2.heap.size, 0, none⟩ = some (.slice (some ⟨bs, os, none⟩) R1 c2) ∧ w'.cell? ⟨w14.heap.size, 0, none⟩ = some (.slice (some ⟨bx, ox, none⟩) i c14)) (first | (exact ⟨below_drewN (Below.refl _ _) 1, hbs, hbo⟩) | (exact q))
        (first
          | (go_at_call 23
             with_reducible refine (flags5_any _ hR1p (cell_s3f HCS.out (by assumption))).mono ?_
             rintro e wc ⟨rfl, bel⟩
             have q := s3_go (by assumption) bel)
          | (go_at_call 23
             with_reducible refine (flags5_any _ hi0 (cell_s3f HCX.out (by assumption))).mono ?_
             rintro e wc ⟨rfl, bel⟩
             have q := s3_go (by assumption) bel))
      clear hbs hbo
      obtain ⟨hq1, hbs, hbo⟩ := q
      have HQ1 := Lib.hid hq1
      have HT1 := Lib.hid (cell_be hbt hq1)
      clear hq1 bel hbt
      by_cases hlast : i + 1 = N
      · obtain ⟨rfl, hcf⟩ := HLS.out hlast
        have hcfb : ((sz : Int) == (fs : Int)) = true := by rw [beq_iff_eq]; omega
        clear hlast hcf
        have HCS2 := Lib.hid (cell_be HCS.out HQ1.out)
        go_wp2_with fail
        refine (flags5_any _ hR1p HCS2.out).mono ?_
        rintro e wd ⟨rfl, bel⟩
        have BD := Lib.hid (HQ1.out.trans (bel.mono HQ1.out.size))
        clear bel
        go_wp2
        go_ret
        exact ⟨ret_bool (by first | exact hcfb | rfl | (simp; done)), B1.out.trans ((SW.out.below.trans (BD.out.mono SW.out.lo)).mono B1.out.size)⟩
      · obtain ⟨rfl, hR2p, hfl2, hftp, hd1, hd2, hle⟩ := HTF.out hlast
        obtain ⟨bt, ot, Bt, dt, xst, rfl, hgt, hclt, _, _⟩ := (ownSS_rd (SW.out.sep.ownSS (i := 3) rfl)).row (k := 0) (by rw [ER2.out]; omega)
        rw [← fl_of hgt, Nat.add_zero, hfl2] at hclt
        have hbt := HT1.out
        obtain ⟨pr, hpr⟩ : ∃ pr, fs * ft = pr := ⟨_, rfl⟩
        have hpr4 : pr ≤ 160000 := by rw [← hpr]; exact Nat.mul_le_mul hs4 ht4
        rw [hpr] at hle
        have q2 : IntKind.i64.wrap ((fs : Int) * (ft : Int)) = (pr : Int) := (IntWalk.i64_in _ (by rw [← Int.natCast_mul, hpr]; omega)).trans (by rw [← Int.natCast_mul, hpr])
        have hleI : (sz : Int) ≤ (pr : Int) := by omega
        have m1 : (sz : Int).tmod (fs : Int) = 0 := by rw [Int.tmod_eq_emod_of_nonneg (by omega)]; exact Int.emod_eq_zero_of_dvd (Int.natCast_dvd_natCast.2 hd1)
        have m2 : (sz : Int).tmod (ft : Int) = 0 := by rw [Int.tmod_eq_emod_of_nonneg (by omega)]; exact Int.emod_eq_zero_of_dvd (Int.natCast_dvd_natCast.2 hd2)
        have z1 : ((fs : Int) == 0) = false := by rw [beq_eq_false_iff_ne]; omega
        have z2 : ((ft : Int) == 0) = false := by rw [beq_eq_false_iff_ne]; omega
        have z3 : ¬ (fs : Int) = 0 := by omega
        have z5 : ¬ fs = 0 := by omega
        have z6 : ¬ ft = 0 := by omega
        have z4 : ¬ (ft : Int) = 0 := by omega
        have n1 : sz % fs = 0 := Nat.mod_eq_zero_of_dvd hd1
        have n2 : sz % ft = 0 := Nat.mod_eq_zero_of_dvd hd2
        have w1_ : IntKind.i64.wrap ((sz : Int).tmod (fs : Int)) = 0 := by rw [m1]; rfl
        have w2_ : IntKind.i64.wrap ((sz : Int).tmod (ft : Int)) = 0 := by rw [m2]; rfl
        have M1 : (sz : Int) % (fs : Int) = 0 := Int.emod_eq_zero_of_dvd (Int.natCast_dvd_natCast.2 hd1)
        have M2 : (sz : Int) % (ft : Int) = 0 := Int.emod_eq_zero_of_dvd (Int.natCast_dvd_natCast.2 hd2)
        have HCS2 := Lib.hid (cell_be HCS.out HQ1.out)
        have HCT2 := Lib.hid (cell_be hclt HQ1.out)
        have SH := Lib.hid (SW.out.go HQ1.out)
        clear hgt hclt hpr hfl2 hd1 hd2 hle hbo hlast HT1 HW HQ1 SW
        go_wp2
        go_region_held3 (fun w' => Below wc.heap.size wc w' ∧ w'.cell? ⟨w2.heap.size, 0, none⟩ = some (.slice (some ⟨bs, os, none⟩) R1 c2) ∧ w'.cell? ⟨w6.heap.size, 0, none⟩ = some (.slice (some ⟨bt, ot, none⟩) R2 c6)) (first | (exact ⟨below_drewN (Below.refl _ _) 1, hbs, hbt⟩) | (exact q))
          (first
            | (go_at_call 23
               with_reducible refine (flags5_any _ hR1p (cell_s3f HCS2.out (by assumption))).mono ?_
               rintro e we ⟨rfl, bel⟩
               have q := s3_go (by assumption) bel)
            | (go_at_call 23
               with_reducible refine (flags5_any _ hR2p (cell_s3f HCT2.out (by assumption))).mono ?_
               rintro e we ⟨rfl, bel⟩
               have q := s3_go (by assumption) bel))
        have BD := Lib.hid q.1
        clear q bel
        go_wp2
        go_ret
        exact ⟨rfl, B1.out.trans ((SH.out.go BD.out).below.mono B1.out.size)⟩
theorem walk_FnFaceSections (a0 : Option Addr) (len0 cap0 : Nat) (z0 : List Int) (w : World) (w0 : IsRow .u8 w a0 len0 cap0 z0) :
    Calls Try.prog 7 #[.slice a0 len0 cap0] w fun e w' => e = .returned (.bool true) ∧ Below w.heap.size w w' := by
  obtain ⟨bs, h1, h2, h3⟩ := isRow_u8 w0
  exact law_FnFaceSections w h1 h2 h3
end Go.Proofs.Ytckmmgepoccopaa
