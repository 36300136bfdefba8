/- The walk of FnAutomorphisms. -/
import Derived.Test.YtmgoaabeopnopaaL25
import Derived.Test.YtmgoaabeopnopaaL26
import Derived.Test.YtmgoaabeopnopaaLk
import Derived.Test.YtmgoaabeopnopaaL18
namespace Go.Proofs.Ytmgoaabeopnopaa
open Go.RowKit

theorem thenL_map {a b : List Int} {n : Nat} (h : a.length = n) : ((List.range n).map fun k : Nat => fz b (fz a k)) = thenL a b := by
  subst h
  unfold thenL
  apply List.ext_getElem (by simp)
  intro i h1 h2
  simp at h1
  have e : fz a (i : Int) = a[i] := fz_at (List.getElem?_eq_getElem h1)
  simp only [List.getElem_map, List.getElem_range, e]
  rfl
set_option maxHeartbeats 102400000 in
set_option maxRecDepth 100000 in
theorem law_FnAutomorphisms {A0 : Option Addr} {c0 n0 : Nat} {bs : List Value} (w : World) (hl : bs.length = n0) (hr : Rd w A0 bs) (hu : ∀ v ∈ bs, ∃ x : Nat, v = .int .u8 x ∧ x < 256) :
    Calls Try.prog 13 #[.slice A0 n0 c0] w fun e w' => e = .returned (.bool true) ∧ Below w.heap.size w w' := by
  have HL0 := Lib.hid hl
  have HR0 := Lib.hid hr
  have HU := Lib.hid hu
  have B0 := Lib.hid (Below.refl w.heap.size w)
  clear hl hr hu
  by_cases hbig : (4096 : Int) < (n0 : Int)
  · go_enter Try.func13, Try.ntmps13
    go_wp2_with fail
    refine (big_any w).mono ?_
    rintro e wz ⟨rfl, rfl⟩
    rw [decide_eq_true (show (4096 : Int) < (n0 : Int) by omega)]
    go_wp2
    go_ret
    exact ⟨rfl, B0.out⟩
  have hn0 : n0 ≤ 1048576 := by omega
  go_enter Try.func13, Try.ntmps13
  go_wp2_with fail
  refine (big_any w).mono ?_
  rintro e wz ⟨rfl, rfl⟩
  rw [decide_eq_false (show ¬ (4096 : Int) < (n0 : Int) by omega)]
  go_wp2_with fail
  refine (drawAut w HL0.out HR0.out HU.out hn0).mono ?_
  rintro e w1 ⟨A1, N, c1, xss, rfl, hx, hN6, hrr, _, _, hrd, bel1⟩
  have HX := Lib.hid hx
  have HA := Lib.hid hrd
  have HR := Lib.hid hrr
  have B1 := Lib.hid bel1
  have hN : N ≤ 1048576 := by omega
  obtain ⟨L, hL⟩ : ∃ L, auR xss = L := ⟨_, rfl⟩
  obtain ⟨C, hC⟩ : ∃ C, auC xss = C := ⟨_, rfl⟩
  obtain ⟨l, hl⟩ : ∃ l, L.length = l := ⟨_, rfl⟩
  have hlb := auR_le xss
  rw [hL, hl] at hlb
  have HL := Lib.hid hL
  have HC := Lib.hid hC
  have HLN := Lib.hid hl
  have HLR := Lib.hid hlb.2
  have hl6 := hlb.1
  have sn_ := (St.start w1).addBlk #[.slice A1 N c1] 27
  simp only [List.nil_append] at sn_
  have S1 := Lib.hid sn_
  clear sn_ hx hrd hrr bel1 hL hC hl hlb
  have bx0 := (S1.out.blk (i := 0) rfl).cell (i := 0) rfl
  go_wp2_with fail
  refine (iAutomorphismsOf_any _ HX.out (HA.out.keep S1.out.below) hN HR.out).mono ?_
  rintro e w2 ⟨Ai, ci, rfl, own, bel⟩
  rw [HL.out, HLN.out] at own
  rw [HL.out, HLN.out, HC.out]
  obtain ⟨vi, sn_⟩ := S1.out.addRows bel own (Nat.le_refl _) (Nat.le_refl _)
  simp only [List.nil_append, List.cons_append] at sn_
  have S2 := Lib.hid sn_
  clear sn_ own bel S1 bx0
  have bx0 := (S2.out.blk (i := 0) rfl).cell (i := 0) rfl
  go_wp2_with fail
  refine (sAutomorphismsOf_any _ HX.out (HA.out.keep S2.out.below) hN HR.out).mono ?_
  rintro e w3 ⟨As, cs, rfl, own, bel⟩
  rw [HL.out, HLN.out] at own
  rw [HL.out, HLN.out, HC.out]
  obtain ⟨vs, sn_⟩ := S2.out.addRows bel own (Nat.le_refl _) (Nat.le_refl _)
  simp only [List.nil_append, List.cons_append] at sn_
  have S3 := Lib.hid sn_
  clear sn_ own bel S2 bx0
  have hne : (C != C) = false := by simp
  go_wp2_with fail
  refine (likeRows_any (n := l) (m := l) _ HLN.out HLN.out (ownSS_rd (S3.out.sep.ownSS (i := 1) rfl)) (ownSS_rd (S3.out.sep.ownSS (i := 2) rfl)) hl6 hl6 HLR.out HLR.out).mono ?_
  rintro e w4 ⟨rfl, j4, rfl⟩
  rw [decide_eq_true (show L = L from rfl)]
  have S4 := Lib.hid (S3.out.go (below_drewN (Below.refl _ _) j4))
  clear S3 hne
  by_cases hC0 : C = 0
  case neg =>
    have hc0 : ((C : Int) != 0) = true := by simpa using hC0
    go_wp2
    go_ret
    exact ⟨rfl, B1.out.trans (S4.out.below.mono B1.out.size)⟩
  case pos =>
    have ho : okMan xss = true := by
      have h := HC.out
      rw [hC0] at h
      unfold auC at h
      split at h
      · assumption
      · omega
    subst hC0
    have hman := okMan_iff.1 ho
    have hpf := autF hman
    have hLa : autL xss = L := by rw [← HL.out, auR, if_pos ho]
    have hF2 := hman.f2
    have hF4 := hman.f4
    obtain ⟨b, ob, A01, c01, rfl, hc0⟩ := man_row0 hman HA.out
    obtain ⟨F, hF⟩ : ∃ F, flN xss = F := ⟨_, rfl⟩
    obtain ⟨o, hoc⟩ : ∃ o, ocn xss = o := ⟨_, rfl⟩
    obtain ⟨O, hO⟩ : ∃ O, oL xss = O := ⟨_, rfl⟩
    obtain ⟨R, hR⟩ : ∃ R, irrB xss = R := ⟨_, rfl⟩
    obtain ⟨X, hX⟩ : ∃ X, chB xss = X := ⟨_, rfl⟩
    have hNp : 0 < N := by have := hman.r1; rw [HX.out] at this; exact this
    have hcnt := hpf.cnt
    have hlp := hpf.pos
    have hrg := hpf.rg
    have hch := hpf.ch
    have hgrt := oL_grt hman
    have hOin := oL_in hman
    have hole := ocn_le hman
    have hop := ocn_pos hman
    rw [hLa, HLN.out] at hlp hcnt
    rw [hoc, hF] at hcnt
    rw [hR, hoc] at hrg
    rw [hX, hoc] at hch
    rw [hO, hoc] at hgrt hOin
    rw [hoc, hF] at hole
    rw [hoc] at hop
    rw [hF] at hc0 hF2 hF4
    have hRo : ((o : Int) == 1) = R := by
      rw [hrg]
      by_cases o1 : o = 1
      · rw [decide_eq_true o1, beq_iff_eq]; omega
      · rw [decide_eq_false o1, beq_eq_false_iff_ne]; omega
    have hx3 : X = false ∨ (X = true ∧ o = 2 ∧ R = false) := by
      cases hXX : X with
      | false => exact .inl rfl
      | true =>
        have h2 := hch hXX
        exact .inr ⟨rfl, h2, by rw [hrg]; exact decide_eq_false (by omega)⟩
    have HRO := Lib.hid hRo
    have HX3 := Lib.hid hx3
    clear hRo hx3 hrg hch
    have HFO := Lib.hid (show fobR xss = O by rw [← hO, fobR, if_pos ho]; rfl)
    have HOL := Lib.hid (show O.length = F by rw [← hO, oL_len, hF])
    have HRG := Lib.hid hR
    have HCH := Lib.hid hX
    have HPF := Lib.hid hpf
    have HLA := Lib.hid hLa
    have HMAN := Lib.hid hman
    have HF := Lib.hid hF
    have HOO := Lib.hid hO
    have HGR := Lib.hid hgrt
    have HOI := Lib.hid hOin
    have HC0 := Lib.hid hc0
    have hlF : l ≤ F := by
      rw [← hcnt]
      exact Nat.le_mul_of_pos_right l hop
    have hmulI : (l : Int) * (o : Int) = (F : Int) := by rw [← hcnt, Int.natCast_mul]
    clear hpf hLa hman hF hO hR hX hgrt hOin hc0 ho hoc
    have bx0 := (S4.out.blk (i := 0) rfl).cell (i := 0) rfl
    go_wp2_with fail
    refine (iCountAutomorphisms_any _ HX.out (HA.out.keep S4.out.below) hN HR.out).mono ?_
    rintro e w5 ⟨rfl, bel⟩
    rw [HL.out, HLN.out, HC.out]
    have S5 := Lib.hid (S4.out.go bel)
    clear bel S4 bx0
    have bx0 := (S5.out.blk (i := 0) rfl).cell (i := 0) rfl
    go_wp2_with fail
    refine (iFlagOrbits_any _ HX.out (HA.out.keep S5.out.below) hN HR.out).mono ?_
    rintro e w6 ⟨Al, cl, rfl, own, bel⟩
    rw [HFO.out, HOL.out] at own
    rw [HFO.out, HOL.out, HC.out]
    have sn_ := S5.out.addOwn bel own (Nat.le_refl _)
    simp only [List.nil_append, List.cons_append] at sn_
    have S6 := Lib.hid sn_
    clear sn_ own bel S5 bx0
    have bx0 := (S6.out.blk (i := 0) rfl).cell (i := 0) rfl
    go_wp2_with fail
    refine (iIsRegular_any _ HX.out (HA.out.keep S6.out.below) hN HR.out).mono ?_
    rintro e w7 ⟨rfl, bel⟩
    rw [HRG.out, HC.out]
    have S7 := Lib.hid (S6.out.go bel)
    clear bel S6 bx0
    have bx0 := (S7.out.blk (i := 0) rfl).cell (i := 0) rfl
    go_wp2_with fail
    refine (iIsChiral_any _ HX.out (HA.out.keep S7.out.below) hN HR.out).mono ?_
    rintro e w8 ⟨rfl, bel⟩
    rw [HCH.out, HC.out]
    have S8 := Lib.hid (S7.out.go bel)
    clear bel S7 bx0
    have bx0 := (S8.out.blk (i := 0) rfl).cell (i := 0) rfl
    have hll : ((l : Int) != (l : Int)) = false := by simp
    go_wp2_with fail
    refine (flags5_any (n := F) (c0 := c01) (A0 := A01) _ hNp (cell_be HC0.out S8.out.below)).mono ?_
    rintro e w9 ⟨rfl, bel⟩
    have S9 := Lib.hid (S8.out.go bel)
    clear bel S8 bx0 hll
    have hFF : ((F : Int) != (F : Int)) = false := by simp
    have hl0 : ((l : Int) == 0) = false := by rw [beq_eq_false_iff_ne]; omega
    have hFp : 0 < F := by omega
    obtain ⟨gl, rfl⟩ := own_shape (S9.out.own (i := 3) rfl) hFp
    go_wp2
    go_loopw [16, 17] (fun u v wr => ∃ f : Nat, f ≤ F ∧ u = .int .i64 (grtL (O.take f)) ∧ v = .int .i64 f ∧ St w1 wr [.blk w1.heap.size #[.slice (some ⟨b, ob, none⟩) N c1] 27, .rows 2 36 Ai l ci vi L, .rows 2 36 As l cs vs L, .own 2 (some ⟨gl, 0, none⟩) F cl (ints O)]) (fun _ v _ => F - (intOf v).toNat)
    case atStart => exact ⟨0, Nat.zero_le _, rfl, rfl, S9.out⟩
    case round =>
      obtain ⟨f, hf, rfl, rfl, st⟩ := hrel
      clear S9
      by_cases hfF : f < F
      · obtain ⟨b1, o1, x, he1, hgx, hcx⟩ := (own_rd (st.own (i := 3) rfl)).int (k := f) (by rw [HOL.out]; exact hfF)
        obtain ⟨rfl, rfl⟩ : gl = b1 ∧ 0 = o1 := by simpa using he1
        rw [Nat.zero_add] at hcx
        have hxb := HOI.out x (List.mem_of_getElem? hgx)
        have hgb := grtL_bd HOI.out f
        have HSU := Lib.hid (grtL_succ hgx)
        obtain ⟨gg, hgg⟩ : ∃ gg, grtL (O.take f) = gg := ⟨_, rfl⟩
        rw [hgg] at hgb HSU ⊢
        have S10 := Lib.hid st
        clear st hgx he1 hgg
        by_cases hge : gg ≤ x
        · have hnx := HSU.out
          rw [if_pos hge] at hnx
          have HNX := Lib.hid hnx
          clear hnx
          go_wp2
          go_roundw
          case rel => exact ⟨f + 1, by omega, by rw [HNX.out], by go_num, S10.out⟩
          case measure => simp [intOf]; omega
        · have hnx := HSU.out
          rw [if_neg hge] at hnx
          have HNX := Lib.hid hnx
          clear hnx
          go_wp2
          go_roundw
          case rel => exact ⟨f + 1, by omega, by rw [HNX.out], by go_num, S10.out⟩
          case measure => simp [intOf]; omega
      · obtain rfl : f = F := by omega
        rw [List.take_of_length_le (by rw [HOL.out]; exact Nat.le_refl _), HGR.out]
        obtain ⟨W4, rfl⟩ : ∃ W4, W4 = wr := ⟨_, rfl⟩
        have S10 := Lib.hid st
        clear st
        have hRo := HRO.out
        have hx3 := HX3.out
        have HLP := Lib.hid hlp
        obtain ⟨gi, rfl⟩ := own_shape (S10.out.rows (i := 1) rfl) hlp
        have bx0 := (S10.out.blk (i := 0) rfl).cell (i := 0) rfl
        go_wp2_with fail
        refine (flags5_any (n := f) (c0 := c01) (A0 := A01) _ hNp (cell_be HC0.out S10.out.below)).mono ?_
        rintro e w11 ⟨rfl, bel⟩
        have S11 := Lib.hid (S10.out.go bel)
        clear bel S10 bx0
        have HRD := Lib.hid (HR0.out.keep (B1.out.trans (S11.out.below.mono B1.out.size)))
        have hmulW : IntKind.i64.wrap ((l : Int) * (o : Int)) = (f : Int) := by rw [hmulI]; exact IntWalk.i64_in _ (by omega)
        rcases hx3 with rfl | ⟨rfl, rfl, rfl⟩
        all_goals
          go_wp2_with fail
          refine (roll_any (s := 710) _ HL0.out HRD.out HU.out hn0 (by omega) (by omega)).mono ?_
          rintro e w12 ⟨g, at', h', rfl, hg, hg1, src, bel⟩
          have SRC := Lib.hid (show SrcE w12 g A0 n0 c0 bs from ⟨at', h', src⟩)
          have B12 := Lib.hid bel
          clear src bel HRD
          go_wp2
          go_loopw [19] (fun v wr => ∃ i : Nat, i ≤ 4 ∧ v = .int .i64 i ∧ SrcE wr g A0 n0 c0 bs ∧ Below w11.heap.size w11 wr) (fun v _ => 4 - (intOf v).toNat)
          case atStart => exact ⟨0, by decide, rfl, SRC.out, B12.out⟩
          case round =>
            obtain ⟨i, hi, rfl, src, bel⟩ := hrel
            clear SRC B12
            obtain ⟨W5, rfl⟩ : ∃ W5, W5 = wr := ⟨_, rfl⟩
            by_cases h4 : i < 4
            · have SRCd := Lib.hid (show SrcE (W5.drewN 1) g A0 n0 c0 bs from by obtain ⟨a, h, hs⟩ := src; exact ⟨a, h, hs.drew 1⟩)
              have BEd := Lib.hid (below_drewN bel 1)
              have lI : (1 : Int) ≤ (l : Int) := by omega
              clear src bel
              go_wp2
              go_region_law ((first
                | (refine step_call rfl 64 #[.tmp 145, .tmp 146] #[63, 2] (by rfl) Try.func64 (by rfl) (by rfl) #[.pointer (some ⟨g, 0, none⟩), .int .i64 l] (by first | (simp [Act.eval]; done) | simp [Act.eval, Act.put]) _ (belowE (N := (l : Int)) _ SRCd.out hn0 lI) ?_
                   rintro e w13 ⟨r1, rfl, ⟨h0r1, h1r1⟩, hs_, tu_⟩
                   refine ⟨_, rfl, ?_⟩
                   obtain ⟨r1, rfl⟩ := Int.eq_ofNat_of_zero_le h0r1
                   have SA := Lib.hid hs_
                   have BA := Lib.hid (Turns.below BEd.out tu_ BEd.out.size hg)
                   obtain ⟨L1, hg1_⟩ : ∃ L1, L[r1]? = some L1 := ⟨_, List.getElem?_eq_getElem (by rw [HLN.out]; omega)⟩
                   obtain ⟨AP1, cP1, hv1, _⟩ := S11.out.rowAt (i := 1) rfl hg1_
                   have HG1 := Lib.hid hg1_
                   have HV1 := Lib.hid hv1
                   have hcA := own_cell ((S11.out.go BA.out).rows (i := 1) rfl) hv1
                   clear hs_ tu_ hv1 hg1_)
                | (refine step_call rfl 64 #[.tmp 151, .tmp 152] #[63, 2] (by rfl) Try.func64 (by rfl) (by rfl) #[.pointer (some ⟨g, 0, none⟩), .int .i64 l] (by first | (simp [Act.eval]; done) | simp [Act.eval, Act.put]) _ (belowE (N := (l : Int)) _ SA.out hn0 lI) ?_
                   rintro e w14 ⟨r2, rfl, ⟨h0r2, h1r2⟩, hs_, tu_⟩
                   refine ⟨_, rfl, ?_⟩
                   obtain ⟨r2, rfl⟩ := Int.eq_ofNat_of_zero_le h0r2
                   have SB := Lib.hid hs_
                   have BB := Lib.hid (Turns.below BA.out tu_ BA.out.size hg)
                   obtain ⟨L2, hg2_⟩ : ∃ L2, L[r2]? = some L2 := ⟨_, List.getElem?_eq_getElem (by rw [HLN.out]; omega)⟩
                   obtain ⟨AP2, cP2, hv2, _⟩ := S11.out.rowAt (i := 1) rfl hg2_
                   have HG2 := Lib.hid hg2_
                   have HV2 := Lib.hid hv2
                   have hcB1 := own_cell ((S11.out.go BB.out).rows (i := 1) rfl) HV1.out
                   have hcB2 := own_cell ((S11.out.go BB.out).rows (i := 1) rfl) hv2
                   clear hs_ tu_ hv2 hg2_)))
              all_goals
                have hsrc := SB.out
                have hbel := BB.out
                have hg1_ := HG1.out
                have hg2_ := HG2.out
                have hv1 := HV1.out
                have hv2 := HV2.out
                clear SRCd BEd SA BA SB BB HG1 HG2 HV1 HV2
                have hm1 : L1 ∈ autL xss := by rw [HLA.out]; exact List.mem_of_getElem? hg1_
                have hm2 : L2 ∈ autL xss := by rw [HLA.out]; exact List.mem_of_getElem? hg2_
                have hl1 : L1.length = f := (autL_rows L1 hm1).trans HF.out
                have hl2 : L2.length = f := (autL_rows L2 hm2).trans HF.out
                have hk1 : okP L1 = true := aut_ok HMAN.out hm1
                have hin1 : ∀ x ∈ L1, 0 ≤ x ∧ x < (f : Int) := fun x hx => by
                  have h0 : L1.length ≤ 400 ∧ IsP L1 := of_decide_eq_true hk1
                  have := h0.2.1 x hx
                  omega
                have hthen : thenL L1 L2 ∈ L := by
                  have := HPF.out.grp L1 hm1 L2 hm2
                  rw [HLA.out, HF.out, thenL_map hl1] at this
                  exact this
                obtain ⟨A1', c1', hv1', ow1⟩ := (S11.out.go hbel).rowAt (i := 1) rfl hg1_
                obtain ⟨A2', c2', hv2', ow2⟩ := (S11.out.go hbel).rowAt (i := 1) rfl hg2_
                rw [hv1] at hv1'
                rw [hv2] at hv2'
                simp only [Option.some.injEq, Value.slice.injEq, true_and] at hv1' hv2'
                obtain ⟨rfl, rfl⟩ := hv1'
                obtain ⟨rfl, rfl⟩ := hv2'
                rw [hl1] at hv1 ow1
                rw [hl2] at hv2 ow2
                rw [hl1, hl2]
                obtain ⟨g1, rfl⟩ := own_shape ow1 hFp
                have S14 := Lib.hid (S11.out.go hbel)
                have HG1 := Lib.hid hg1_
                have HV1 := Lib.hid hv1
                have SRC := Lib.hid hsrc
                have BE := Lib.hid hbel
                have HM1 := Lib.hid hm1
                have HL1 := Lib.hid hl1
                have HL2 := Lib.hid hl2
                have HI1 := Lib.hid hin1
                have HTH := Lib.hid hthen
                have O1 := Lib.hid ow1
                have O2 := Lib.hid ow2
                clear hsrc hbel hm1 hm2 hl1 hl2 hk1 hin1 hthen ow1 ow2 hv1 hv2 hg1_ hg2_
                go_wp2_with fail
                refine (then5_any (n := f) (m := f) _ HL1.out HL2.out (own_rd O1.out) (own_rd O2.out) hF4 HI1.out).mono ?_
                rintro e w15 ⟨A5, c5, rfl, own5, bel5⟩
                have O5 := Lib.hid own5
                have B5 := Lib.hid bel5
                clear own5 bel5
                go_wp2_with fail
                refine (hasRow5_any (n := l) (m := f) _ HLN.out (ownSS_rd ((S14.out.go B5.out).sep.ownSS (i := 1) rfl)) hl6 HLR.out (by rw [thenL_length]; exact HL1.out) (own_rd O5.out) HTH.out).mono ?_
                rintro e w16 ⟨rfl, bel6⟩
                have B6 := Lib.hid (B5.out.trans (bel6.mono B5.out.size))
                clear bel6 O5 B5 O2 HL2 HTH
                have bx0 := ((S14.out.go B6.out).blk (i := 0) rfl).cell (i := 0) rfl
                go_wp2_with fail
                refine (flags5_any (n := f) (c0 := c01) (A0 := A01) _ hNp (cell_be HC0.out (S14.out.go B6.out).below)).mono ?_
                rintro e w17 ⟨rfl, bel7⟩
                have B7 := Lib.hid (B6.out.trans (bel7.mono B6.out.size))
                clear bel7 B6 bx0
                have SR7 := Lib.hid (SRC.out.same fun k hk => B7.out.block k (by have := SRC.out.lt; omega))
                go_wp2_with fail
                refine (belowE (N := (f : Int)) _ SR7.out hn0 (by omega)).mono ?_
                rintro e w18 ⟨r3, rfl, ⟨h0r3, h1r3⟩, hs_, tu_⟩
                obtain ⟨r3, rfl⟩ := Int.eq_ofNat_of_zero_le h0r3
                have SR8 := Lib.hid hs_
                have B8 := Lib.hid (Turns.below (BE.out.trans (B7.out.mono BE.out.size)) tu_ (Nat.le_trans BE.out.size B7.out.size) hg)
                clear hs_ tu_ SR7 B7 SRC BE
                obtain ⟨x1, hx1, hfx, hlab⟩ := HPF.out.lab L1 HM1.out r3 (by rw [HF.out]; omega)
                rw [HF.out] at hx1
                rw [HOO.out] at hlab
                have hr3 : r3 < f := by omega
                have e1 : L1[r3]? = some (x1 : Int) := by
                  have h := fz_at (List.getElem?_eq_getElem (l := L1) (i := r3) (by rw [HL1.out]; exact hr3))
                  rw [List.getElem?_eq_getElem (by rw [HL1.out]; exact hr3), ← h, hfx]
                obtain ⟨y, hy⟩ : ∃ y, O[r3]? = some y := ⟨_, List.getElem?_eq_getElem (by rw [HOL.out]; exact hr3)⟩
                have hy1 : O[x1]? = some y := by
                  have h := fz_at (List.getElem?_eq_getElem (l := O) (i := x1) (by rw [HOL.out]; exact hx1))
                  rw [List.getElem?_eq_getElem (by rw [HOL.out]; exact hx1), ← h, hlab, fz_at hy]
                obtain ⟨A', c', hv', ow⟩ := (S11.out.go B8.out).rowAt (i := 1) rfl HG1.out
                rw [HL1.out, HV1.out] at hv'
                simp only [Option.some.injEq, Value.slice.injEq, true_and] at hv'
                obtain ⟨rfl, rfl⟩ := hv'
                rw [HL1.out] at ow
                have HOW := Lib.hid ow
                have hcp := own_cell ow (k := r3) (u := .int .i64 x1) (by simp [e1])
                have hco1 := own_cell ((S11.out.go B8.out).own (i := 3) rfl) (k := x1) (u := .int .i64 y) (by simp [hy1])
                have hco2 := own_cell ((S11.out.go B8.out).own (i := 3) rfl) (k := r3) (u := .int .i64 y) (by simp [hy])
                have bx0 := ((S11.out.go B8.out).blk (i := 0) rfl).cell (i := 0) rfl
                have hyy : (y != y) = false := by simp
                have HE1 := Lib.hid e1
                have HFX := Lib.hid hfx
                clear ow hlab hy hy1 e1 hfx
                go_wp2
                go_quiet (fail)
                go_wp2
                go_loopw [23] (fun v wr => ∃ k : Nat, k ≤ N ∧ v = .int .i64 k ∧ ∃ j, wr = w18.drewN j) (fun v _ => N - (intOf v).toNat)
                case atStart => exact ⟨0, Nat.zero_le _, rfl, nq, rfl⟩
                case round =>
                  obtain ⟨k, hk, rfl, j, rfl⟩ := hrel
                  by_cases hkN : k < N
                  · obtain ⟨b1, o1, Am, cm, xs, he1, hgx, hcx, hrd, _⟩ := (HA.out.keep (S11.out.go B8.out).below).row (k := k) (by rw [HX.out]; exact hkN)
                    obtain ⟨rfl, rfl⟩ : b = b1 ∧ ob = o1 := by simpa using he1
                    have hgm := List.mem_of_getElem? hgx
                    have hxl : xs.length = f := by
                      have := ((sys_parts HMAN.out.sys).2.2.2 xs hgm).1
                      rw [HF.out] at this
                      omega
                    rw [hxl] at hcx
                    obtain ⟨bq, oq, z, he2, hgz, hcz⟩ := hrd.int (k := r3) (by rw [hxl]; exact hr3)
                    subst he2
                    obtain ⟨bq2, oq2, u, he3, hgu, hcu⟩ := hrd.int (k := x1) (by rw [hxl]; exact hx1)
                    obtain ⟨rfl, rfl⟩ : bq = bq2 ∧ oq = oq2 := by simpa using he3
                    have hzr := sys_img HMAN.out.sys hgm (x := (r3 : Int)) (by omega) (by rw [HF.out]; omega)
                    rw [fz_at hgz, HF.out] at hzr
                    obtain ⟨z, rfl⟩ := Int.eq_ofNat_of_zero_le hzr.1
                    have hz : z < f := by omega
                    have hmv := HPF.out.mv L1 HM1.out xs hgm r3 (by rw [HF.out]; exact hr3)
                    rw [fz_at hgz, HFX.out, fz_at hgu] at hmv
                    have e2 : L1[z]? = some u := by
                      have h := fz_at (List.getElem?_eq_getElem (l := L1) (i := z) (by rw [HL1.out]; exact hz))
                      rw [List.getElem?_eq_getElem (by rw [HL1.out]; exact hz), ← h, hmv]
                    have hcL := own_cell HOW.out (k := z) (u := .int .i64 u) (by simp [e2])
                    have huu : (u != u) = false := by simp
                    clear hgx hgz hgu he1 he3 hzr hmv e2 hgm hxl hrd
                    go_wp2
                    go_quiet (fail)
                    go_wp2
                    go_roundw
                    case rel => exact ⟨k + 1, by omega, by go_num, j + nq, by simp⟩
                    case measure => simp [intOf]; omega
                  · obtain rfl : k = N := by omega
                    have e0 : L1[0]? = some (fz L1 0) := by
                      have h := fz_at (List.getElem?_eq_getElem (l := L1) (i := 0) (by rw [HL1.out]; exact hFp))
                      rw [List.getElem?_eq_getElem (by rw [HL1.out]; exact hFp), ← h]; rfl
                    obtain ⟨v0, hv0⟩ : ∃ v0, fz L1 0 = v0 := ⟨_, rfl⟩
                    have hat := HPF.out.at0 L1 HM1.out
                    rw [hv0] at e0 hat
                    have hc00 := own_cell HOW.out (k := 0) (u := .int .i64 v0) (by simp [e0])
                    have HAT := Lib.hid hat
                    have BX := Lib.hid (below_drewN B8.out (j + 1))
                    clear hat e0 hv0 hcp hco1 hco2 hyy
                    go_wp2
                    go_region_law ((first
                      | (refine step_call rfl 67 #[.tmp 209, .tmp 212] #[27, 2] (by rfl) Try.func67 (by rfl) (by rfl) #[.agg #[.slice (some ⟨b, ob, none⟩) k c1], .int .i64 v0] (by first | (simp [Act.eval]; done) | simp [Act.eval, Act.put]) _ (iAutomorphismTo_any v0 _ HX.out (HA.out.keep (S11.out.go BX.out).below) hN HR.out) ?_
                         rintro e w20 ⟨A9, c9, rfl, own9, bel9⟩
                         refine ⟨_, rfl, ?_⟩
                         rw [HAT.out.1, HL1.out] at own9
                         rw [HAT.out.1, HAT.out.2, HL1.out]
                         have O9 := Lib.hid own9
                         have B9 := Lib.hid bel9
                         clear own9 bel9)))
                    all_goals
                      go_wp2_with fail
                      refine (likeB (n := f) (m := f) _ HL1.out HL1.out (own_rd O9.out) (((own_rd HOW.out).drewN (j + 1)).keep B9.out) (by omega)).mono ?_
                      rintro e w21 ⟨rfl, bel⟩
                      rw [decide_eq_true (show L1 = L1 from rfl)]
                      have BE21 := Lib.hid (BX.out.trans ((B9.out.trans (bel.mono B9.out.size)).mono BX.out.size))
                      have hlt8 := SR8.out.lt
                      have h9s : w18.heap.size ≤ w20.heap.size := B9.out.size
                      have SR21 := Lib.hid (SR8.out.same fun k' hk' => (bel.block k' (by omega)).trans (B9.out.block k' (show k' < w18.heap.size by omega)))
                      clear bel
                      go_wp2
                      go_roundw
                      case rel => exact ⟨i + 1, by omega, by go_num, SR21.out, BE21.out⟩
                      case measure => simp [intOf]; omega
            · obtain rfl : i = 4 := by omega
              go_wp2
              go_ret
              exact ⟨rfl, B1.out.trans ((S11.out.go bel).below.mono B1.out.size)⟩

theorem walk_FnAutomorphisms (a0 : Option Addr) (len0 cap0 : Nat) (z0 : List Int) (w : World) (w0 : IsRow .u8 w a0 len0 cap0 z0) :
    Calls Try.prog 13 #[.slice a0 len0 cap0] w fun e w' => e = .returned (.bool true) ∧ Below w.heap.size w w' := by
  obtain ⟨bs, hl, hr, hu⟩ := isRow_u8 w0
  exact law_FnAutomorphisms w hl hr hu
end Go.Proofs.Ytmgoaabeopnopaa
