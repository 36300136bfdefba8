/- FaceMap: impl.covering.faceMap, impl.FaceMap and spec.FaceMap. -/
import Derived.Test.YtmgoaabeopnopaaCz
import Derived.Test.YtmgoaabeopnopaaCwf
import Derived.Test.YtmgoaabeopnopaaL8
import Derived.StillTailTactics
namespace Go.Proofs.Ytmgoaabeopnopaa
open Go.RowKit

theorem mpTo_step {A B L : List Int} {m f j v u : Nat} (ha : A[f]? = some (j : Int)) (hl : L[f]? = some (v : Int)) (hb : B[v]? = some (u : Int)) : mpTo A B L m (f + 1) = (mpTo A B L m f).set j (u : Int) := by
  have e1 : fz A f = (j : Int) := fz_at ha
  have e2 : fz L f = (v : Int) := fz_at hl
  have e3 : fz B v = (u : Int) := fz_at hb
  rw [mpTo, e1, e2, e3, Int.toNat_natCast]

set_option maxHeartbeats 6400000 in
set_option maxRecDepth 100000 in
theorem iMapC_any {AL A A1 : Option Addr} {nL cL N c k c1 i : Nat} {xss yss : List (List Int)} {L : List Int} (w : World) (hm1 : okMan xss = true) (hm2 : okMan yss = true) (hcov : IsCov7 xss yss L) (hx : xss.length = N) (hy : yss.length = k) (hl : L.length = nL) (ha : RdSS w A xss) (hb : RdSS w A1 yss) (hL : Rd w AL (ints L)) (hi : i < N) (hcap : N ≤ c) (hc63 : c ≤ 9223372036854775807) (hcap1 : k ≤ c1) (hc631 : c1 ≤ 9223372036854775807) :
    Calls Try.prog 112 #[.agg #[.slice AL nL cL, .slice A N c, .slice A1 k c1], .int .i64 i] w fun e w' => ∃ A' c', e = .returned (.slice A' (mpL7 xss yss L i).length c') ∧ w'.ownsRow w.heap.size 2 1 (.slice A' (mpL7 xss yss L i).length c') (mpL7 xss yss L i).length (ints (mpL7 xss yss L i)) ∧ Below w.heap.size w w' := by
  have hman := okMan_iff.1 hm1
  have hman2 := okMan_iff.1 hm2
  have hsys := hman.sys
  have hsy := hman2.sys
  have hn4 := hman.f4
  have hn2 := hman.f2
  have hk4 := hman2.f4
  have hk2 := hman2.f2
  have hik : i < k := by have := hcov.1; rw [hx, hy] at this; omega
  have hlen : L.length = flN xss := hcov.2.len
  have him := hcov.2.im
  obtain ⟨b, o, A0, c0, rfl, hc0⟩ := man_row0 hman ha
  obtain ⟨b1, o1, A2, c2, rfl, hc2⟩ := man_row0 hman2 hb
  have hcl := g7n_le (i := i) hman
  have hlA := @g7L_len xss i
  have hlB := @g7L_len yss i
  have hatA := fun (f : Nat) (hf : f < flN xss) => g7L_at (i := i) hman hf
  have hatB := fun (f : Nat) (hf : f < flN yss) => g7L_at (i := i) hman2 hf
  have hgr := g7L_grt (i := i) hman
  have hinA := g7L_in (i := i) hman
  have hml : mpL7 xss yss L i = mpTo (g7L xss i) (g7L yss i) L (g7n xss i) (flN xss) := rfl
  rw [hml]
  obtain ⟨q, hq⟩ : ∃ q, g7n xss i = q := ⟨_, rfl⟩
  obtain ⟨FA, hFA⟩ : ∃ FL, g7L xss i = FL := ⟨_, rfl⟩
  obtain ⟨FB, hFB⟩ : ∃ FL, g7L yss i = FL := ⟨_, rfl⟩
  have hFA2 : facL xss (flN xss) i = FA := hFA
  have hFB2 : facL yss (flN yss) i = FB := hFB
  obtain ⟨n, hn⟩ : ∃ n, flN xss = n := ⟨_, rfl⟩
  obtain ⟨n1, hn1⟩ : ∃ n, flN yss = n := ⟨_, rfl⟩
  rw [hFA, hFB, hq, hn]
  rw [hq] at hcl hatA hgr hinA
  rw [hFA] at hatA hgr hlA hinA
  rw [hFB] at hatB hlB
  rw [hn] at hsys hn2 hn4 hcl hlA hatA hFA2 hlen him hc0
  rw [hn1] at hsy hk2 hk4 hlB hatB hFB2 him hc2
  have hnL : nL = n := by omega
  subst hnL
  obtain ⟨bL, oL, _, hAL, _, _⟩ := hL.int (k := 0) (by omega)
  subst hAL
  have HX := Lib.hid hx
  have HY := Lib.hid hy
  have HA := Lib.hid ha
  have HB := Lib.hid hb
  have HL := Lib.hid hL
  have HLL := Lib.hid hl
  have HC0 := Lib.hid hc0
  have HC2 := Lib.hid hc2
  have HS := Lib.hid hsys
  have HSY := Lib.hid hsy
  have HLA := Lib.hid hlA
  have HLB := Lib.hid hlB
  have HAA := Lib.hid hatA
  have HAB := Lib.hid hatB
  have HGR := Lib.hid hgr
  have HIN := Lib.hid hinA
  have HFA := Lib.hid hFA2
  have HFB := Lib.hid hFB2
  have HIM := Lib.hid him
  have hmk := run_make_row' (P := Try.prog) 36 2 (.int .i64 0) 8 Try.underlying36 Try.info2 rfl .i64 .i64 q (by omega) (by omega)
  have st0 := (St.start w).addBlk #[.slice (some ⟨bL, oL, none⟩) nL cL, .slice (some ⟨b, o, none⟩) N c, .slice (some ⟨b1, o1, none⟩) k c1] 88
  have S0 := Lib.hid st0
  have y0 := (st0.blk (i := 0) rfl).cell (i := 1) rfl
  clear st0 hx hy ha hb hL hl hm1 hm2 hman hman2 hsys hsy hlA hlB hatA hatB hgr hinA hFA hFB hFA2 hFB2 hn hn1 hc0 hc2 hq him hlen hcov hml
  go_enter Try.func112, Try.ntmps112
  go_wp2_with fail
  refine (ifaces_any _ HX.out (HA.out.keep S0.out.below) HS.out (cell_be HC0.out S0.out.below) hi hcap hc63 (by omega)).mono ?_
  rintro e w1 ⟨A6, ca, rfl, own, bel⟩
  rw [HFA.out, HLA.out] at own
  rw [HFA.out, HLA.out, HGR.out]
  obtain ⟨ga, rfl⟩ := own_shape own (by omega)
  have S1 := Lib.hid (S0.out.addOwn bel own (Nat.le_refl _))
  clear own bel y0 S0
  have z0 := (S1.out.blk (i := 0) rfl).cell (i := 2) rfl
  go_wp2_with fail
  refine (ifaces_any _ HY.out (HB.out.keep S1.out.below) HSY.out (cell_be HC2.out S1.out.below) hik hcap1 hc631 (by omega)).mono ?_
  rintro e w2 ⟨A7, cb, rfl, own, bel⟩
  rw [HFB.out, HLB.out] at own
  rw [HFB.out, HLB.out]
  obtain ⟨gb, rfl⟩ := own_shape own (by omega)
  have S2 := Lib.hid (S1.out.addOwn bel own (Nat.le_refl _))
  clear own bel z0 S1
  have S5 := Lib.hid (show St w (w2.alloc (.cells (madeCells #[.int .i64 0] q) 2)) [.blk w.heap.size #[.slice (some ⟨bL, oL, none⟩) nL cL, .slice (some ⟨b, o, none⟩) N c, .slice (some ⟨b1, o1, none⟩) k c1] 88, .own 2 (some ⟨ga, 0, none⟩) nL ca (ints FA), .own 2 (some ⟨gb, 0, none⟩) n1 cb (ints FB), .own 2 (some ⟨w2.heap.size, 0, none⟩) q q (ints (mpTo FA FB L q 0))] from by
    have h := S2.out.addMake (.int .i64 0) q 2 (by unfold maxLen; omega)
    simpa [ints, mpTo] using h)
  have x5 := (S5.out.blk (i := 0) rfl).cell (i := 0) rfl
  go_wp2
  obtain ⟨g5, hg5⟩ : ∃ g, w2.heap.size = g := ⟨_, rfl⟩
  rw [hg5] at S5 ⊢
  clear hg5 S2 x5
  go_loopw [31] (fun v wi => ∃ f : Nat, f ≤ nL ∧ v = .int .i64 f ∧ St w wi [.blk w.heap.size #[.slice (some ⟨bL, oL, none⟩) nL cL, .slice (some ⟨b, o, none⟩) N c, .slice (some ⟨b1, o1, none⟩) k c1] 88, .own 2 (some ⟨ga, 0, none⟩) nL ca (ints FA), .own 2 (some ⟨gb, 0, none⟩) n1 cb (ints FB), .own 2 (some ⟨g5, 0, none⟩) q q (ints (mpTo FA FB L q f))]) (fun v _ => nL - (intOf v).toNat)
  case atStart => exact ⟨0, Nat.zero_le _, rfl, S5.out⟩
  case round =>
    obtain ⟨f, hf, rfl, st2⟩ := hrel
    have S2 := Lib.hid st2
    clear st2 S5
    by_cases hfn : f < nL
    · obtain ⟨j, hj, hjo⟩ := HAA.out f hfn
      obtain ⟨b4, o4, y, he4, hgy, hcy⟩ := (HL.out.keep S2.out.below).int (k := f) (by rw [HLL.out]; exact hfn)
      obtain ⟨rfl, rfl⟩ : bL = b4 ∧ oL = o4 := by simpa using he4
      have hyb := HIM.out f hfn
      rw [fz_at hgy] at hyb
      obtain ⟨v, rfl⟩ := Int.eq_ofNat_of_zero_le hyb.1
      have hvn : v < n1 := by omega
      obtain ⟨u, hu, huo⟩ := HAB.out v hvn
      have hca := own_cell (S2.out.own (i := 1) rfl) (show (ints FA)[f]? = some (.int .i64 j) by rw [ints, List.getElem?_map, hjo]; rfl)
      have hcb := own_cell (S2.out.own (i := 2) rfl) (show (ints FB)[v]? = some (.int .i64 u) by rw [ints, List.getElem?_map, huo]; rfl)
      obtain ⟨u8, hu8⟩ := ints_at (mpTo_len (A := FA) (B := FB) (L := L) (m := q) f) hj
      have hcj := own_cell (S2.out.own (i := 3) rfl) hu8
      have hfj := (S2.out.own (i := 3) rfl).frozenAt j
      have STP := Lib.hid (mpTo_step (m := q) hjo hgy huo)
      have jI : (j : Int) < (q : Int) := by omega
      clear hgy hjo huo hu8 hyb he4
      go_wp2
      go_still_tail 10, (by kernel_rfl)
      have S4 := S2.out.go (below_drewN (Below.refl _ _) 1)
      have S6 := Lib.hid (show St w _ [.blk w.heap.size #[.slice (some ⟨bL, oL, none⟩) nL cL, .slice (some ⟨b, o, none⟩) N c, .slice (some ⟨b1, o1, none⟩) k c1] 88, .own 2 (some ⟨ga, 0, none⟩) nL ca (ints FA), .own 2 (some ⟨gb, 0, none⟩) n1 cb (ints FB), .own 2 (some ⟨g5, 0, none⟩) q q (ints ((mpTo FA FB L q f).set j (u : Int)))] from by
        have h := S4.store (i := 3) rfl j (.int .i64 (u : Int))
        rw [ints_set] at h
        exact h)
      clear S4
      go_wp2
      go_roundw
      case rel => exact ⟨f + 1, by omega, by go_num, by rw [STP.out]; exact S6.out⟩
      case measure => simp [intOf]; omega
    · obtain rfl : f = nL := by omega
      go_wp2
      go_ret
      exact ⟨some ⟨g5, 0, none⟩, q, by rw [mpTo_len]; rfl, by rw [mpTo_len]; exact S2.out.own (i := 3) rfl, S2.out.below⟩

set_option maxHeartbeats 6400000 in
set_option maxRecDepth 100000 in
theorem iFaceMap_any {AL A A1 : Option Addr} {nL cL N c k c1 : Nat} {xss yss : List (List Int)} {L : List Int} (f7 : Int) (w : World) (hx : xss.length = N) (ha : RdSS w A xss) (hN : N ≤ 1048576) (hr : ∀ xs ∈ xss, (xs.length : Int) ≤ 1048576) (hcap : N ≤ c) (hc63 : c ≤ 9223372036854775807) (hy : yss.length = k) (hb : RdSS w A1 yss) (hk : k ≤ 1048576) (hs : ∀ xs ∈ yss, (xs.length : Int) ≤ 1048576) (hcap1 : k ≤ c1) (hc631 : c1 ≤ 9223372036854775807) (hl : L.length = nL) (hL : Rd w AL (ints L)) (hLn : nL ≤ 1048576) :
    Calls Try.prog 47 #[.agg #[.slice A N c], .agg #[.slice A1 k c1], .slice AL nL cL, .int .i64 f7] w (RetS w (fmR7 xss yss L f7) (fmC7 xss yss L f7)) := by
  have HX := Lib.hid hx
  have HA := Lib.hid ha
  have HR := Lib.hid hr
  have HY := Lib.hid hy
  have HB := Lib.hid hb
  have HT := Lib.hid hs
  have HLL := Lib.hid hl
  have HL := Lib.hid hL
  have st0 := ((St.start w).addBlk #[.slice A N c] 27).addBlk #[.slice A1 k c1] 27
  simp at st0
  have S0 := Lib.hid st0
  have x0 := (st0.blk (i := 0) rfl).cell (i := 0) rfl
  have y0 := (st0.blk (i := 1) rfl).cell (i := 0) rfl
  clear st0
  obtain ⟨C, hC⟩ : ∃ C, cvC7 xss yss L = C := ⟨_, rfl⟩
  have HC := Lib.hid hC
  by_cases h0 : C = 0
  case neg =>
    have e0 : fmR7 xss yss L f7 = [] := by simp [fmR7, fmC7, hC, h0]
    have e1 : fmC7 xss yss L f7 = C := by simp [fmC7, hC, h0]
    rw [e0, e1]
    clear e0 e1
    have HV := Lib.hid (show c7V C AL nL cL A N c A1 k c1 = .agg #[.slice none 0 0, .slice none 0 0, .slice none 0 0] from if_neg h0)
    have hc0 : ((C : Int) != 0) = true := by rw [bne_iff_ne]; exact h0
    clear hx ha hr hy hb hs hl hL hC h0
    go_enter Try.func47, Try.ntmps47
    go_wp2_with fail
    refine (iRead7_any _ HX.out (HA.out.keep S0.out.below) hN HR.out HY.out (HB.out.keep S0.out.below) hk HT.out HLL.out (HL.out.keep S0.out.below) hLn).mono ?_
    rintro e w1 ⟨rfl, bel⟩
    rw [HC.out, HV.out]
    have S2 := Lib.hid ((S0.out.go bel).addBlk #[.slice none 0 0, .slice none 0 0, .slice none 0 0] 88)
    clear bel x0 y0
    go_wp2
    go_ret2
    exact ⟨none, 0, rfl, World.ownsRow_nil _ _ _ _, S2.out.below⟩
  case pos =>
    subst h0
    obtain ⟨hman7, hman8, hcov⟩ := cvC7_zero hC
    have hm1 := okMan_iff.2 hman7
    have hm2 := okMan_iff.2 hman8
    obtain ⟨fb, hfb⟩ : ∃ fb, flagB N f7 = fb := ⟨_, rfl⟩
    have HFF := Lib.hid hfb
    have HV := Lib.hid (show c7V 0 AL nL cL A N c A1 k c1 = .agg #[.slice AL nL cL, .slice A N c, .slice A1 k c1] from rfl)
    cases fb with
    | false =>
      have e0 : fmR7 xss yss L f7 = [] := by simp [fmR7, fmC7, hC, hx, hfb]
      have e1 : fmC7 xss yss L f7 = 2 := by simp [fmC7, hC, hx, hfb]
      rw [e0, e1]
      clear e0 e1
      clear hx ha hr hy hb hs hl hL hC hman7 hman8 hcov hm1 hm2 hfb
      go_enter Try.func47, Try.ntmps47
      go_wp2_with fail
      refine (iRead7_any _ HX.out (HA.out.keep S0.out.below) hN HR.out HY.out (HB.out.keep S0.out.below) hk HT.out HLL.out (HL.out.keep S0.out.below) hLn).mono ?_
      rintro e w1 ⟨rfl, bel⟩
      rw [HC.out, HV.out]
      have S2 := Lib.hid ((S0.out.go bel).addBlk #[.slice AL nL cL, .slice A N c, .slice A1 k c1] 88)
      clear bel x0 y0
      have x1 := (S2.out.blk (i := 0) rfl).cell (i := 0) rfl
      go_wp2_with fail
      refine (iRank_bel (N := N) f7 _ HFF.out).mono ?_
      rintro e w3 ⟨rfl, bel⟩
      have S3 := Lib.hid (S2.out.go bel)
      clear bel x1
      go_wp2
      go_ret2
      exact ⟨none, 0, rfl, World.ownsRow_nil _ _ _ _, S3.out.below⟩
    | true =>
      obtain ⟨i, rfl, hi⟩ := flagB_true hfb
      have e0 : fmR7 xss yss L (i : Int) = mpL7 xss yss L i := by simp [fmR7, fmC7, hC, hx, hfb]
      have e1 : fmC7 xss yss L (i : Int) = 0 := by simp [fmC7, hC, hx, hfb]
      rw [e0, e1]
      clear e0 e1
      have H1 := Lib.hid hm1
      have H2 := Lib.hid hm2
      have HCV := Lib.hid hcov
      clear hx ha hr hy hb hs hl hL hC hman7 hman8 hcov hm1 hm2 hfb
      go_enter Try.func47, Try.ntmps47
      go_wp2_with fail
      refine (iRead7_any _ HX.out (HA.out.keep S0.out.below) hN HR.out HY.out (HB.out.keep S0.out.below) hk HT.out HLL.out (HL.out.keep S0.out.below) hLn).mono ?_
      rintro e w1 ⟨rfl, bel⟩
      rw [HC.out, HV.out]
      have S2 := Lib.hid ((S0.out.go bel).addBlk #[.slice AL nL cL, .slice A N c, .slice A1 k c1] 88)
      clear bel x0 y0
      have x1 := (S2.out.blk (i := 0) rfl).cell (i := 0) rfl
      go_wp2_with fail
      refine (iRank_bel (N := N) (i : Int) _ HFF.out).mono ?_
      rintro e w3 ⟨rfl, bel⟩
      have S3 := Lib.hid (S2.out.go bel)
      clear bel x1
      have t0 := (S3.out.blk (i := 2) rfl).cell (i := 0) rfl
      have t1 := (S3.out.blk (i := 2) rfl).cell (i := 1) rfl
      have t2 := (S3.out.blk (i := 2) rfl).cell (i := 2) rfl
      go_wp2_with fail
      refine (iMapC_any _ H1.out H2.out HCV.out HX.out HY.out HLL.out (HA.out.keep S3.out.below) (HB.out.keep S3.out.below) (HL.out.keep S3.out.below) hi hcap hc63 hcap1 hc631).mono ?_
      rintro e w4 ⟨A4, c4, rfl, own, bel⟩
      have OWN := Lib.hid (own_base own S3.out.lo)
      have S4 := Lib.hid (S3.out.go bel)
      clear own bel t0 t1 t2
      go_wp2
      go_ret2
      exact ⟨A4, c4, rfl, OWN.out, S4.out.below⟩

set_option maxHeartbeats 6400000 in
set_option maxRecDepth 100000 in
theorem sFaceMap_any {AL A A1 : Option Addr} {nL cL N c k c1 : Nat} {xss yss : List (List Int)} {L : List Int} (f7 : Int) (w : World) (hx : xss.length = N) (ha : RdSS w A xss) (hN : N ≤ 1048576) (hr : ∀ xs ∈ xss, (xs.length : Int) ≤ 1048576) (hy : yss.length = k) (hb : RdSS w A1 yss) (hk : k ≤ 1048576) (hs : ∀ xs ∈ yss, (xs.length : Int) ≤ 1048576) (hl : L.length = nL) (hL : Rd w AL (ints L)) (hLn : nL ≤ 1048576) :
    Calls Try.prog 46 #[.agg #[.slice A N c], .agg #[.slice A1 k c1], .slice AL nL cL, .int .i64 f7] w (RetS w (fmR7 xss yss L f7) (fmC7 xss yss L f7)) := by
  have HX := Lib.hid hx
  have HA := Lib.hid ha
  have HR := Lib.hid hr
  have HY := Lib.hid hy
  have HB := Lib.hid hb
  have HT := Lib.hid hs
  have HLL := Lib.hid hl
  have HL := Lib.hid hL
  have st0 := ((St.start w).addBlk #[.slice A N c] 27).addBlk #[.slice A1 k c1] 27
  simp at st0
  have S0 := Lib.hid st0
  have x0 := (st0.blk (i := 0) rfl).cell (i := 0) rfl
  have y0 := (st0.blk (i := 1) rfl).cell (i := 0) rfl
  clear st0
  obtain ⟨C, hC⟩ : ∃ C, cvC7 xss yss L = C := ⟨_, rfl⟩
  have HC := Lib.hid hC
  by_cases h0 : C = 0
  case neg =>
    have e0 : fmR7 xss yss L f7 = [] := by simp [fmR7, fmC7, hC, h0]
    have e1 : fmC7 xss yss L f7 = C := by simp [fmC7, hC, h0]
    rw [e0, e1]
    clear e0 e1
    have hc0 : ((C : Int) != 0) = true := by rw [bne_iff_ne]; exact h0
    have hc1 : ((C : Int) == 0) = false := by rw [beq_eq_false_iff_ne]; exact h0
    clear hx ha hr hy hb hs hl hL hC h0
    go_enter Try.func46, Try.ntmps46
    go_wp2_with fail
    refine (sCode7_any _ HX.out (HA.out.keep S0.out.below) hN HR.out HY.out (HB.out.keep S0.out.below) hk HT.out HLL.out (HL.out.keep S0.out.below) hLn).mono ?_
    rintro e w1 ⟨rfl, bel⟩
    rw [HC.out]
    have S2 := Lib.hid (S0.out.go bel)
    clear bel x0 y0
    go_wp2
    go_ret2
    exact ⟨none, 0, rfl, World.ownsRow_nil _ _ _ _, S2.out.below⟩
  case pos =>
    subst h0
    obtain ⟨hman7, hman8, hcov⟩ := cvC7_zero hC
    have hm1 := okMan_iff.2 hman7
    have hm2 := okMan_iff.2 hman8
    obtain ⟨fb, hfb⟩ : ∃ fb, flagB N f7 = fb := ⟨_, rfl⟩
    have HFF := Lib.hid hfb
    cases fb with
    | false =>
      have e0 : fmR7 xss yss L f7 = [] := by simp [fmR7, fmC7, hC, hx, hfb]
      have e1 : fmC7 xss yss L f7 = 2 := by simp [fmC7, hC, hx, hfb]
      rw [e0, e1]
      clear e0 e1
      clear hx ha hr hy hb hs hl hL hC hman7 hman8 hcov hm1 hm2 hfb
      go_enter Try.func46, Try.ntmps46
      go_wp2_with fail
      refine (sCode7_any _ HX.out (HA.out.keep S0.out.below) hN HR.out HY.out (HB.out.keep S0.out.below) hk HT.out HLL.out (HL.out.keep S0.out.below) hLn).mono ?_
      rintro e w1 ⟨rfl, bel⟩
      rw [HC.out]
      have S2 := Lib.hid (S0.out.go bel)
      clear bel x0 y0
      have x1 := (S2.out.blk (i := 0) rfl).cell (i := 0) rfl
      go_wp2_with fail
      refine (sRank_val (N := N) (f := f7) _ HFF.out).mono ?_
      rintro e w3 ⟨rfl, bel⟩
      have S3 := Lib.hid (S2.out.go bel)
      clear bel x1
      go_wp2
      go_ret2
      exact ⟨none, 0, rfl, World.ownsRow_nil _ _ _ _, S3.out.below⟩
    | true =>
      obtain ⟨i, rfl, hi⟩ := flagB_true hfb
      have e0 : fmR7 xss yss L (i : Int) = mpL7 xss yss L i := by simp [fmR7, fmC7, hC, hx, hfb]
      have e1 : fmC7 xss yss L (i : Int) = 0 := by simp [fmC7, hC, hx, hfb]
      rw [e0, e1]
      clear e0 e1
      have hman := okMan_iff.1 hm1
      have hman2 := okMan_iff.1 hm2
      have hsys := hman.sys
      have hsy := hman2.sys
      have hn4 := hman.f4
      have hn2 := hman.f2
      have hk4 := hman2.f4
      have hk2 := hman2.f2
      have hik : i < k := by have := hcov.1; rw [hx, hy] at this; omega
      have hlen : L.length = flN xss := hcov.2.len
      have him := hcov.2.im
      obtain ⟨b, o, A0, c0, rfl, hc0⟩ := man_row0 hman ha
      obtain ⟨b1, o1, A2, c2, rfl, hc2⟩ := man_row0 hman2 hb
      have hcl := g7n_le (i := i) hman
      have hlA := @g7L_len xss i
      have hlB := @g7L_len yss i
      have hatA := fun (f : Nat) (hf : f < flN xss) => g7L_at (i := i) hman hf
      have hatB := fun (f : Nat) (hf : f < flN yss) => g7L_at (i := i) hman2 hf
      have hgr := g7L_grt (i := i) hman
      have hinA := g7L_in (i := i) hman
      have hml : mpL7 xss yss L i = mpTo (g7L xss i) (g7L yss i) L (g7n xss i) (flN xss) := rfl
      rw [hml]
      obtain ⟨q, hq⟩ : ∃ q, g7n xss i = q := ⟨_, rfl⟩
      obtain ⟨FA, hFA⟩ : ∃ FL, g7L xss i = FL := ⟨_, rfl⟩
      obtain ⟨FB, hFB⟩ : ∃ FL, g7L yss i = FL := ⟨_, rfl⟩
      have hFA2 : facL xss (flN xss) i = FA := hFA
      have hFB2 : facL yss (flN yss) i = FB := hFB
      obtain ⟨n, hn⟩ : ∃ n, flN xss = n := ⟨_, rfl⟩
      obtain ⟨n1, hn1⟩ : ∃ n, flN yss = n := ⟨_, rfl⟩
      rw [hFA, hFB, hq, hn]
      rw [hq] at hcl hatA hgr hinA
      rw [hFA] at hatA hgr hlA hinA
      rw [hFB] at hatB hlB
      rw [hn] at hsys hn2 hn4 hcl hlA hatA hFA2 hlen him hc0
      rw [hn1] at hsy hk2 hk4 hlB hatB hFB2 him hc2
      have hnL : nL = n := by omega
      subst hnL
      obtain ⟨bL, oL, _, hAL, _, _⟩ := hL.int (k := 0) (by omega)
      subst hAL
      have HX2 := Lib.hid hx
      have HY2 := Lib.hid hy
      have HA2 := Lib.hid ha
      have HB2 := Lib.hid hb
      have HL2 := Lib.hid hL
      have HLL2 := Lib.hid hl
      have HC0 := Lib.hid hc0
      have HC2 := Lib.hid hc2
      have HS := Lib.hid hsys
      have HSY := Lib.hid hsy
      have HLA := Lib.hid hlA
      have HLB := Lib.hid hlB
      have HAA := Lib.hid hatA
      have HAB := Lib.hid hatB
      have HGR := Lib.hid hgr
      have HIN := Lib.hid hinA
      have HFA := Lib.hid hFA2
      have HFB := Lib.hid hFB2
      have HIM := Lib.hid him
      have hmk := run_make_row' (P := Try.prog) 36 2 (.int .i64 0) 8 Try.underlying36 Try.info2 rfl .i64 .i64 q (by omega) (by omega)
      clear HX2 HL2 HLL2 HA2 HB2 HY2 hr hs hC hman7 hman8 hfb hx hy ha hb hL hl hm1 hm2 hman hman2 hsys hsy hlA hlB hatA hatB hgr hinA hFA hFB hFA2 hFB2 hn hn1 hc0 hc2 hq him hlen hcov hml
      go_enter Try.func46, Try.ntmps46
      go_wp2_with fail
      refine (sCode7_any _ HX.out (HA.out.keep S0.out.below) hN HR.out HY.out (HB.out.keep S0.out.below) hk HT.out HLL.out (HL.out.keep S0.out.below) hLn).mono ?_
      rintro e w1 ⟨rfl, bel⟩
      rw [HC.out]
      have S2 := Lib.hid (S0.out.go bel)
      clear bel x0 y0
      have x1 := (S2.out.blk (i := 0) rfl).cell (i := 0) rfl
      go_wp2_with fail
      refine (sRank_val (N := N) (f := (i : Int)) _ HFF.out).mono ?_
      rintro e w3 ⟨rfl, bel⟩
      have S3 := Lib.hid (S2.out.go bel)
      clear bel x1
      have xd := (S3.out.blk (i := 0) rfl).cell (i := 0) rfl
      have yd := (S3.out.blk (i := 1) rfl).cell (i := 0) rfl
      have S4 := Lib.hid (S3.out.go (below_drewN (Below.refl _ _) 1))
      go_wp2
      go_region_law ((go_simp; go_at_call 109
                      first
                      | refine (sfaces_any _ HY.out (HB.out.keep S5.out.below) HSY.out (cell_be HC2.out S5.out.below) hik).mono ?_
                        rintro e w5 ⟨A7, cb, rfl, own, bel⟩
                        rw [HFB.out] at own
                        obtain ⟨gb, rfl⟩ := own_shape own (by omega)
                        have S6 := Lib.hid (S5.out.addOwn bel own (Nat.le_refl _))
                        clear own bel
                      | refine (sfaces_any _ HX.out (HA.out.keep S4.out.below) HS.out (cell_be HC0.out S4.out.below) hi).mono ?_
                        rintro e w4 ⟨A6, ca, rfl, own, bel⟩
                        rw [HFA.out] at own
                        obtain ⟨ga, rfl⟩ := own_shape own (by omega)
                        have S5 := Lib.hid (S4.out.addOwn bel own (Nat.le_refl _))
                        have y5 := (S5.out.blk (i := 1) rfl).cell (i := 0) rfl
                        clear own bel))
      all_goals
        clear S5 S4 S3 y5 xd yd
        go_wp2_with fail
        refine (grt_any _ HLA.out (own_rd (S6.out.own (i := 2) rfl)) (by omega) (fun x hx => ⟨(HIN.out x hx).1, by have := (HIN.out x hx).2; omega⟩)).mono ?_
        rintro e w6 ⟨rfl, rfl⟩
        rw [HGR.out]
        have S5 := Lib.hid (show St w (w5.alloc (.cells (madeCells #[.int .i64 0] q) 2)) [.blk w.heap.size #[.slice (some ⟨b, o, none⟩) N c] 27, .blk (w.heap.size + 1) #[.slice (some ⟨b1, o1, none⟩) k c1] 27, .own 2 (some ⟨ga, 0, none⟩) nL ca (ints FA), .own 2 (some ⟨gb, 0, none⟩) n1 cb (ints FB), .own 2 (some ⟨w5.heap.size, 0, none⟩) q q (ints (mpTo FA FB L q 0))] from by
          have h := S6.out.addMake (.int .i64 0) q 2 (by unfold maxLen; omega)
          simpa [ints, mpTo] using h)
        go_wp2
        obtain ⟨g5, hg5⟩ : ∃ g, w5.heap.size = g := ⟨_, rfl⟩
        rw [hg5] at S5 ⊢
        clear hg5 S6
        go_loopw [14] (fun v wi => ∃ f : Nat, f ≤ nL ∧ v = .int .i64 f ∧ St w wi [.blk w.heap.size #[.slice (some ⟨b, o, none⟩) N c] 27, .blk (w.heap.size + 1) #[.slice (some ⟨b1, o1, none⟩) k c1] 27, .own 2 (some ⟨ga, 0, none⟩) nL ca (ints FA), .own 2 (some ⟨gb, 0, none⟩) n1 cb (ints FB), .own 2 (some ⟨g5, 0, none⟩) q q (ints (mpTo FA FB L q f))]) (fun v _ => nL - (intOf v).toNat)
        case atStart => exact ⟨0, Nat.zero_le _, rfl, S5.out⟩
        case round =>
          obtain ⟨f, hf, rfl, st2⟩ := hrel
          have S2 := Lib.hid st2
          clear st2 S5
          by_cases hfn : f < nL
          · obtain ⟨j, hj, hjo⟩ := HAA.out f hfn
            obtain ⟨b4, o4, y, he4, hgy, hcy⟩ := (HL.out.keep S2.out.below).int (k := f) (by rw [HLL.out]; exact hfn)
            obtain ⟨rfl, rfl⟩ : bL = b4 ∧ oL = o4 := by simpa using he4
            have hyb := HIM.out f hfn
            rw [fz_at hgy] at hyb
            obtain ⟨v, rfl⟩ := Int.eq_ofNat_of_zero_le hyb.1
            have hvn : v < n1 := by omega
            obtain ⟨u, hu, huo⟩ := HAB.out v hvn
            have hca := own_cell (S2.out.own (i := 2) rfl) (show (ints FA)[f]? = some (.int .i64 j) by rw [ints, List.getElem?_map, hjo]; rfl)
            have hcb := own_cell (S2.out.own (i := 3) rfl) (show (ints FB)[v]? = some (.int .i64 u) by rw [ints, List.getElem?_map, huo]; rfl)
            obtain ⟨u8, hu8⟩ := ints_at (mpTo_len (A := FA) (B := FB) (L := L) (m := q) f) hj
            have hcj := own_cell (S2.out.own (i := 4) rfl) hu8
            have hfj := (S2.out.own (i := 4) rfl).frozenAt j
            have STP := Lib.hid (mpTo_step (m := q) hjo hgy huo)
            have jI : (j : Int) < (q : Int) := by omega
            clear hgy hjo huo hu8 hyb he4
            go_wp2
            go_still_tail 13, (by kernel_rfl)
            have S4 := S2.out.go (below_drewN (Below.refl _ _) 1)
            have S6 := Lib.hid (show St w _ [.blk w.heap.size #[.slice (some ⟨b, o, none⟩) N c] 27, .blk (w.heap.size + 1) #[.slice (some ⟨b1, o1, none⟩) k c1] 27, .own 2 (some ⟨ga, 0, none⟩) nL ca (ints FA), .own 2 (some ⟨gb, 0, none⟩) n1 cb (ints FB), .own 2 (some ⟨g5, 0, none⟩) q q (ints ((mpTo FA FB L q f).set j (u : Int)))] from by
              have h := S4.store (i := 4) rfl j (.int .i64 (u : Int))
              rw [ints_set] at h
              exact h)
            clear S4
            go_wp2
            go_roundw
            case rel => exact ⟨f + 1, by omega, by go_num, by rw [STP.out]; exact S6.out⟩
            case measure => simp [intOf]; omega
          · obtain rfl : f = nL := by omega
            go_wp2
            go_ret2
            exact ⟨some ⟨g5, 0, none⟩, q, by rw [mpTo_len]; rfl, by rw [mpTo_len]; exact S2.out.own (i := 4) rfl, S2.out.below⟩

end Go.Proofs.Ytmgoaabeopnopaa
