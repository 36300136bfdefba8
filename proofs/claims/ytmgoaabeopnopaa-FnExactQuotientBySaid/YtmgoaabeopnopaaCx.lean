/- Whether a list is a covering: impl.covering.isValid, spec.l07Cover, spec.l07Covering. -/
import Derived.Test.YtmgoaabeopnopaaCq
import Derived.Test.YtmgoaabeopnopaaCvs
import Derived.Test.YtmgoaabeopnopaaL19
namespace Go.Proofs.Ytmgoaabeopnopaa
open Go.RowKit

abbrev c7cells (AL : Option Addr) (nL cL : Nat) (A : Option Addr) (N c : Nat) (A1 : Option Addr) (k c1 : Nat) : Array Value := #[.slice AL nL cL, .slice A N c, .slice A1 k c1]

set_option maxHeartbeats 6400000 in
set_option maxRecDepth 8000 in
theorem iCovOk_any {AL A A1 : Option Addr} {nL cL N c k c1 : Nat} {xss yss : List (List Int)} {L : List Int} {r : Bool} (w : World) (hm1 : okMan xss = true) (hm2 : okMan yss = true) (hx : xss.length = N) (hk : yss.length = k) (hl : L.length = nL) (ha : RdSS w A xss) (hb : RdSS w A1 yss) (hL : Rd w AL (ints L)) (hLn : nL ≤ 1048576) (hr : cvB7 xss yss L = r) :
    Calls Try.prog 94 #[.agg #[.slice AL nL cL, .slice A N c, .slice A1 k c1]] w fun e w' => e = .returned (.bool r) ∧ Below w.heap.size w w' := by
  have hman := okMan_iff.1 hm1
  have hman2 := okMan_iff.1 hm2
  have hsys := hman.sys
  have hsy := hman2.sys
  have hn4 := hman.f4
  have hn2 := hman.f2
  have hk4 := hman2.f4
  have hpos := hman.pos hx
  have hpos2 := hman2.pos hk
  have hN : N ≤ 1048576 := by have := hman.r5; omega
  have hK : k ≤ 1048576 := by have := hman2.r5; omega
  obtain ⟨b, o, A0, c0, rfl, hc0⟩ := man_row0 hman ha
  obtain ⟨b1, o1, A2, c2, rfl, hc2⟩ := man_row0 hman2 hb
  obtain ⟨n, hn⟩ : ∃ n, flN xss = n := ⟨_, rfl⟩
  obtain ⟨n1, hn1⟩ : ∃ n, flN yss = n := ⟨_, rfl⟩
  have NOL := Lib.hid (fun (h : nL ≠ n) => cv_noL (xss := xss) (yss := yss) (L := L) (by rw [hl, hn]; exact h))
  have NOR := Lib.hid (fun (h : N ≠ k) => cv_noR (xss := xss) (yss := yss) (L := L) (by rw [hx, hk]; exact h))
  have NOI := Lib.hid (fun (t : Nat) (y : Int) (ht : t < n) (hy : L[t]? = some y) (h : flagB n1 y = false) => cv_noI (xss := xss) (yss := yss) (by rw [hn]; exact ht) hy (by rw [hn1]; exact h))
  have NOM := Lib.hid (fun (i t : Nat) (g h : List Int) (hg : xss[i]? = some g) (hh : yss[i]? = some h) (ht : t < n) (he : fz L (fz g t) ≠ fz h (fz L t)) => cv_noM (L := L) hg hh (by rw [hn]; exact ht) he)
  have DON := Lib.hid (fun (e1 : N = k) (e2 : nL = n) (him : ∀ t : Nat, t < n → 0 ≤ fz L t ∧ fz L t < (n1 : Int)) (hq : CvQ xss yss n L N 0) => cvQ_done (xss := xss) (yss := yss) (L := L) hn (by rw [hx, hk]; exact e1) (by rw [hl]; exact e2) (by rw [hn1]; exact him) (by rw [hx]; exact hq))
  rw [hn] at hc0 hsys hn2 hn4
  rw [hn1] at hc2 hsy hk4
  have HX := Lib.hid hx
  have HK := Lib.hid hk
  have HLL := Lib.hid hl
  have HA := Lib.hid ha
  have HB := Lib.hid hb
  have HL := Lib.hid hL
  have HC0 := Lib.hid hc0
  have HC2 := Lib.hid hc2
  have HS := Lib.hid hsys
  have HSY := Lib.hid hsy
  have HR := Lib.hid hr
  have st0 := (St.start w).addBlk (c7cells AL nL cL (some ⟨b, o, none⟩) N c (some ⟨b1, o1, none⟩) k c1) 88
  have S := Lib.hid st0
  have x0 := BelowOf.cell ((st0.blk (i := 0) rfl).cell (i := 0) rfl)
  have y0 := BelowOf.cell ((st0.blk (i := 0) rfl).cell (i := 1) rfl)
  have z0 := BelowOf.cell ((st0.blk (i := 0) rfl).cell (i := 2) rfl)
  have HCW := Lib.hid (cell_be hc0 S.out.below)
  clear st0 hx hk ha hb hL hc0 hc2 hsys hsy hman hman2 hm1 hm2 hn hn1 hr hl
  go_enter Try.func94, Try.ntmps94
  go_wp2
  by_cases hNk : N = k
  · subst hNk
    by_cases hnn : n = nL
    · subst hnn
      refine wp_region_quiet_below (by kernel_rfl) (by kernel_rfl) ?_
      repeat (go_big_quiet_step ((first | (go_at_call 138; exact Calls.below_of (rank_bel _)) | (go_at_call 106; exact Calls.below_of (flags_bel _ hpos (BelowOf.cell HCW.out _))))))
      refine wpQuiet_nil ?_
      intro wq hw'
      obtain ⟨⟨wv, hbq⟩, hw''⟩ := hw'
      subst hw''
      have Sc := Lib.hid (S.out.go hbq)
      have xSc := (Sc.out.blk (i := 0) rfl).cell (i := 0) rfl
      have ySc := (Sc.out.blk (i := 0) rfl).cell (i := 1) rfl
      have zSc := (Sc.out.blk (i := 0) rfl).cell (i := 2) rfl
      clear S x0 y0 z0 hbq HCW
      go_wp2
      go_loopw [28] (fun i wr => ∃ j : Nat, j ≤ n ∧ i = .int .i64 j ∧ St w wr [.blk w.heap.size (c7cells AL n cL (some ⟨b, o, none⟩) N c (some ⟨b1, o1, none⟩) N c1) 88] ∧ (∀ t : Nat, t < j → 0 ≤ fz L t ∧ fz L t < (n1 : Int))) (fun i _ => n - (intOf i).toNat)
      case atStart => exact ⟨0, Nat.zero_le _, rfl, Sc.out, fun t ht => by omega⟩
      case round =>
        obtain ⟨j, hj, rfl, st, him⟩ := hrel
        have S2 := Lib.hid st
        have IM := Lib.hid him
        clear st him Sc xSc ySc zSc
        have xS2 := (S2.out.blk (i := 0) rfl).cell (i := 0) rfl
        have yS2 := (S2.out.blk (i := 0) rfl).cell (i := 1) rfl
        have zS2 := (S2.out.blk (i := 0) rfl).cell (i := 2) rfl
        by_cases hlt : j < n
        · obtain ⟨bl, ol, y, hAL, hgy, hcy⟩ := (HL.out.keep S2.out.below).int (k := j) (by rw [HLL.out]; exact hlt)
          obtain ⟨AL', hAL'⟩ : ∃ A', A' = AL := ⟨_, rfl⟩
          subst hAL
          have HGY := Lib.hid hgy
          obtain ⟨fb, hfb⟩ : ∃ fb, flagB n1 y = fb := ⟨_, rfl⟩
          have HFB := Lib.hid hfb
          clear hgy hfb hAL'
          go_wp2_with fail
          refine (iFlag_bel y _ hpos2 (cell_be HC2.out S2.out.below) (by omega) HFB.out).mono ?_
          rintro e w5 ⟨rfl, bel⟩
          have S5 := Lib.hid (S2.out.go bel)
          clear bel xS2 yS2 zS2
          cases fb with
          | false =>
            have HF := Lib.hid (NOI.out j y hlt HGY.out HFB.out)
            go_wp2
            go_ret
            exact ⟨ret_bool (by rw [← HR.out, HF.out]), S5.out.below⟩
          | true =>
            have IM2 := Lib.hid (show ∀ t : Nat, t < j + 1 → 0 ≤ fz L t ∧ fz L t < (n1 : Int) from fun t ht => by
              rcases Nat.lt_succ_iff_lt_or_eq.1 ht with h | rfl
              · exact IM.out t h
              · rw [fz_at HGY.out]; exact of_decide_eq_true HFB.out)
            go_wp2
            go_roundw
            case rel => exact ⟨j + 1, by omega, by go_num, S5.out, IM2.out⟩
            case measure => simp [intOf]; omega
        · obtain rfl : j = n := by omega
          obtain ⟨W1, rfl⟩ : ∃ W1, W1 = wr := ⟨_, rfl⟩
          have hyr := (S2.out.blk (i := 0) rfl).cell (i := 1) rfl
          clear xS2 zS2 hlt
          go_wp2
          go_loopw [42] (fun i wr => ∃ i' : Nat, i' ≤ N ∧ i = .int .i64 i' ∧ (∃ d, wr = W1.drewN d) ∧ CvQ xss yss j L i' 0) (fun i _ => N - (intOf i).toNat)
          case atStart => exact ⟨0, Nat.zero_le _, rfl, ⟨0, rfl⟩, cvQ_start⟩
          case round =>
            obtain ⟨i, hi, rfl, ⟨d, rfl⟩, hq⟩ := hrel
            have Q := Lib.hid hq
            clear hq hyr yS2
            by_cases hil : i < N
            · have Sd := Lib.hid (S2.out.go (below_drewN (Below.refl _ _) d))
              obtain ⟨b3, o3, A4, c4, gg, he, hg, hc, hrd, hms⟩ := HA.out.row (k := i) (by rw [HX.out]; exact hil)
              obtain ⟨rfl, rfl⟩ : b = b3 ∧ o = o3 := by simpa using he
              obtain ⟨b5, o5, A5, c5, hh, he5, hh5, hc5, hrd5, hms5⟩ := HB.out.row (k := i) (by rw [HK.out]; exact hil)
              obtain ⟨rfl, rfl⟩ : b1 = b5 ∧ o1 = o5 := by simpa using he5
              have hlg : gg.length = j := by have := sys_len HS.out hg; omega
              have hlh : hh.length = n1 := by have := sys_len HSY.out hh5; omega
              rw [hlg] at hc
              rw [hlh] at hc5
              have HG := Lib.hid hg
              have HH := Lib.hid hh5
              have HRD := Lib.hid hrd
              have HRD5 := Lib.hid hrd5
              have HC5 := Lib.hid hc5
              have HLG := Lib.hid hlg
              have HLH := Lib.hid hlh
              have hcd := cell_be hc Sd.out.below
              clear he hg hrd hms hc he5 hh5 hc5 hrd5 hms5 hlg hlh
              go_wp2
              go_loopw [49] (fun v wi => ∃ f : Nat, f ≤ j ∧ v = .int .i64 f ∧ (∃ d, wi = W1.drewN d) ∧ CvQ xss yss j L i f) (fun v _ => j - (intOf v).toNat)
              case atStart => exact ⟨0, Nat.zero_le _, rfl, ⟨d, rfl⟩, Q.out⟩
              case round =>
                obtain ⟨f, hf, rfl, ⟨d2, rfl⟩, hq2⟩ := hrel
                have Q2 := Lib.hid hq2
                clear hq2 hcd
                by_cases hfl : f < j
                · have Se := Lib.hid (S2.out.go (below_drewN (Below.refl _ _) d2))
                  have hx1 := (S2.out.blk (i := 0) rfl).cell (i := 0) rfl
                  have hx2 := (S2.out.blk (i := 0) rfl).cell (i := 1) rfl
                  have hx3 := (S2.out.blk (i := 0) rfl).cell (i := 2) rfl
                  have hc5 := cell_be HC5.out S2.out.below
                  obtain ⟨b4, o4, y, rfl, hgy, hcy⟩ := (HRD.out.keep S2.out.below).int (k := f) (by rw [HLG.out]; exact hfl)
                  obtain ⟨r1, rfl, hr1⟩ := sys_at HS.out HG.out hgy
                  obtain ⟨bl, ol, v, rfl, hgv, hcv⟩ := (HL.out.keep S2.out.below).int (k := f) (by rw [HLL.out]; exact hfl)
                  obtain ⟨bl2, ol2, u, he2, hgu, hcu⟩ := (HL.out.keep S2.out.below).int (k := r1) (by rw [HLL.out]; omega)
                  obtain ⟨rfl, rfl⟩ : bl = bl2 ∧ ol = ol2 := by simpa using he2
                  have hv := IM.out f hfl
                  rw [fz_at hgv] at hv
                  obtain ⟨v, rfl⟩ := Int.eq_ofNat_of_zero_le hv.1
                  obtain ⟨b6, o6, m, rfl, hhm, hcm⟩ := (HRD5.out.keep S2.out.below).int (k := v) (by rw [HLH.out]; omega)
                  have hr1n : r1 < j := by omega
                  have hvn : v < n1 := by omega
                  have FE := Lib.hid (show fz L (fz gg f) = u from by rw [fz_at hgy, fz_at hgu])
                  have FM := Lib.hid (show fz hh (fz L f) = m from by rw [fz_at hgv, fz_at hhm])
                  have hu := IM.out r1 hr1n
                  rw [fz_at hgu] at hu
                  obtain ⟨u, rfl⟩ := Int.eq_ofNat_of_zero_le hu.1
                  obtain ⟨m, rfl, hmb⟩ := sys_at HSY.out HH.out hhm
                  clear hgy hgv hgu hhm he2 hv hu
                  by_cases hum : u = m
                  · subst hum
                    have Q3 := Lib.hid (cvQ_step Q2.out HG.out HH.out (by rw [FE.out, FM.out]))
                    go_wp2
                    go_quiet (fail)
                    go_wp2
                    go_roundw
                    case rel => exact ⟨f + 1, by omega, by go_num, ⟨d2 + nq, by simp⟩, Q3.out⟩
                    case measure => simp [intOf]; omega
                  · have HF := Lib.hid (NOM.out i f gg hh HG.out HH.out hfl (by rw [FE.out, FM.out]; omega))
                    go_wp2
                    go_quiet (fail)
                    go_wp2
                    go_ret
                    exact ⟨ret_bool (by rw [← HR.out, HF.out]), below_drewN (below_drewN S2.out.below d2) nq⟩
                · obtain rfl : f = j := by omega
                  have Q3 := Lib.hid (cvQ_next Q2.out)
                  go_wp2
                  go_roundw
                  case rel => exact ⟨i + 1, by omega, by go_num, ⟨d2, rfl⟩, Q3.out⟩
                  case measure => simp [intOf]; omega
            · obtain rfl : i = N := by omega
              have HF := Lib.hid (DON.out (by first | trivial | rfl) (by first | trivial | rfl) IM.out Q.out)
              go_wp2
              go_ret
              exact ⟨ret_bool (by rw [← HR.out, HF.out]), below_drewN S2.out.below d⟩
    · have hNI : ((n : Int) != (nL : Int)) = true := by rw [bne_iff_ne]; omega
      refine wp_region_quiet_below (by kernel_rfl) (by kernel_rfl) ?_
      repeat (go_big_quiet_step ((first | (go_at_call 138; exact Calls.below_of (rank_bel _)) | (go_at_call 106; exact Calls.below_of (flags_bel _ hpos (BelowOf.cell HCW.out _))))))
      refine wpQuiet_nil ?_
      intro wq hw'
      obtain ⟨⟨wv, hbq⟩, hw''⟩ := hw'
      subst hw''
      have HF := Lib.hid (NOL.out (by omega))
      have Sc := Lib.hid (S.out.go hbq)
      go_wp2
      go_ret
      exact ⟨ret_bool (by rw [← HR.out, HF.out]), Sc.out.below⟩
  · have hNI : ((N : Int) != (k : Int)) = true := by rw [bne_iff_ne]; omega
    refine wp_region_quiet_below (by kernel_rfl) (by kernel_rfl) ?_
    repeat (go_big_quiet_step ((first | (go_at_call 138; exact Calls.below_of (rank_bel _)) | (go_at_call 106; exact Calls.below_of (flags_bel _ hpos (BelowOf.cell HCW.out _))))))
    refine wpQuiet_nil ?_
    intro wq hw'
    obtain ⟨⟨wv, hbq⟩, hw''⟩ := hw'
    subst hw''
    have HF := Lib.hid (NOR.out hNk)
    have Sb := Lib.hid (S.out.go hbq)
    go_wp2
    go_ret
    exact ⟨ret_bool (by rw [← HR.out, HF.out]), Sb.out.below⟩
end Go.Proofs.Ytmgoaabeopnopaa
