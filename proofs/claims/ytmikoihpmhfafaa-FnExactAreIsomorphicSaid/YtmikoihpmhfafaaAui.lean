/- impl.firstIsomorphism and impl.automorphisms. -/
import Derived.Test.YtmikoihpmhfafaaHmi
import Derived.Test.YtmikoihpmhfafaaAu
import Derived.Test.YtmikoihpmhfafaaL17
namespace Go.Proofs.Ytmikoihpmhfafaa
open Go.RowKit

theorem isoRet_bel {w w' w2 : World} {n : Nat} {o : Option (List Int)} {e : Ending} (hb : Below w.heap.size w w2) (h : IsoRet w2 n o e w') : IsoRet w n o e w' := by
  obtain ⟨h1, h2⟩ := h
  refine ⟨hb.trans (h1.mono hb.size), h2.imp id ?_⟩
  rintro ⟨L, g, c, h3, h4, h5⟩
  exact ⟨L, g, c, h3, h4, own_base h5 hb.size⟩

set_option maxHeartbeats 6400000 in
set_option maxRecDepth 8000 in
theorem ifirst_any {A A1 : Option Addr} {c c1 N k : Nat} {xss yss : List (List Int)} (w : World) (hm1 : okMan xss = true) (hm2 : okMan yss = true) (hx : xss.length = N) (hk : yss.length = k) (ha : RdSS w A xss) (hb : RdSS w A1 yss) :
    Calls Try.prog 131 #[.agg #[.slice A N c], .agg #[.slice A1 k c1]] w (IsoRet w (flN xss) (firO xss yss)) := by
  have hman := okMan_iff.1 hm1
  have hman2 := okMan_iff.1 hm2
  have hsys := hman.sys
  have hsy := hman2.sys
  have hn4 := hman.f4
  have hn2 := hman.f2
  have hpos := hman.pos hx
  have hpos2 := hman2.pos hk
  have hN : N ≤ 1048576 := by have := hman.r5; omega
  have hall := hman.all (q := 0) (by omega)
  obtain ⟨b, o, A0, c0, rfl, hc0⟩ := man_row0 hman ha
  obtain ⟨b1, o1, A2, c2, rfl, hc2⟩ := man_row0 hman2 hb
  obtain ⟨n, hn⟩ : ∃ n, flN xss = n := ⟨_, rfl⟩
  obtain ⟨n1, hn1⟩ : ∃ n, flN yss = n := ⟨_, rfl⟩
  have hf : firO xss yss = if N = k ∧ n = n1 then fstI xss yss n n else none := by rw [firO, hx, hk, hn, hn1]
  obtain ⟨F, hF⟩ : ∃ F, firO xss yss = F := ⟨_, rfl⟩
  rw [hF] at hf ⊢
  rw [hn]
  rw [hn] at hc0 hsys hn2 hn4 hall
  rw [hn1] at hc2 hsy
  have HF := Lib.hid hf
  have HX := Lib.hid hx
  have HK := Lib.hid hk
  have HA := Lib.hid ha
  have HB := Lib.hid hb
  have HC0 := Lib.hid hc0
  have HC2 := Lib.hid hc2
  have HS := Lib.hid hsys
  have HSY := Lib.hid hsy
  have HALL := Lib.hid hall
  have st0 := ((St.start w).addBlk #[.slice (some ⟨b, o, none⟩) N c] 26).addBlk #[.slice (some ⟨b1, o1, none⟩) k c1] 26
  simp at st0
  have S := Lib.hid (st0.go (below_drewN (Below.refl _ _) 1))
  have x0 := (st0.blk (i := 0) rfl).cell (i := 0) rfl
  have y0 := (st0.blk (i := 1) rfl).cell (i := 0) rfl
  clear st0 hx hk ha hb hc0 hc2 hsys hsy hall hman hman2 hm1 hm2 hf hF hn hn1
  go_enter Try.func131, Try.ntmps131
  go_wp2
  by_cases hNk : N = k
  · subst hNk
    by_cases hnn : n = n1
    · subst hnn
      go_region_law ((first
        | (go_simp; go_at_call 102
           refine (rank_bel _).mono ?_
           rintro e wq ⟨rfl, belq⟩
           first
           | have Sb := Lib.hid (Sa.out.go belq)
             have xSb := (Sb.out.blk (i := 0) rfl).cell (i := 0) rfl
             have ySb := (Sb.out.blk (i := 1) rfl).cell (i := 0) rfl
           | have Sa := Lib.hid (S.out.go belq)
             have xSa := (Sa.out.blk (i := 0) rfl).cell (i := 0) rfl
             have ySa := (Sa.out.blk (i := 1) rfl).cell (i := 0) rfl
           clear belq)
        | (go_simp; go_at_call 108
           first
           | refine (flags_bel _ hpos2 (cell_be HC2.out Sc.out.below)).mono ?_
             rintro e wq ⟨rfl, belq⟩
             have Sd := Lib.hid (Sc.out.go belq)
             have xSd := (Sd.out.blk (i := 0) rfl).cell (i := 0) rfl
             have ySd := (Sd.out.blk (i := 1) rfl).cell (i := 0) rfl
           | refine (flags_bel _ hpos (cell_be HC0.out Sb.out.below)).mono ?_
             rintro e wq ⟨rfl, belq⟩
             have Sc := Lib.hid (Sb.out.go belq)
             have xSc := (Sc.out.blk (i := 0) rfl).cell (i := 0) rfl
             have ySc := (Sc.out.blk (i := 1) rfl).cell (i := 0) rfl
           clear belq)))
      all_goals
        go_wp2_with fail
        refine (flags_bel _ hpos2 (cell_be HC2.out Sd.out.below)).mono ?_
        rintro e w1 ⟨rfl, bel⟩
        have S1 := Lib.hid (Sd.out.go bel)
        clear bel S Sa Sb Sc Sd xSa xSb xSc xSd ySa ySb ySc ySd x0 y0
        go_wp2
        go_loopw [21] (fun i wr => ∃ j : Nat, j ≤ n ∧ i = .int .i64 j ∧ St w wr [.blk w.heap.size #[.slice (some ⟨b, o, none⟩) N c] 26, .blk (w.heap.size + 1) #[.slice (some ⟨b1, o1, none⟩) N c1] 26] ∧ fstI xss yss n j = none) (fun i _ => n - (intOf i).toNat)
        case atStart => exact ⟨0, Nat.zero_le _, rfl, S1.out, rfl⟩
        case round =>
          obtain ⟨j, hj, rfl, st, hno⟩ := hrel
          have S2 := Lib.hid st
          have NO := Lib.hid hno
          have x2 := (st.blk (i := 0) rfl).cell (i := 0) rfl
          have y2 := (st.blk (i := 1) rfl).cell (i := 0) rfl
          clear st hno
          by_cases hlt : j < n
          · go_wp2_with fail
            refine (iisoTo_any (q := j) _ HX.out (HA.out.keep S2.out.below) HK.out (HB.out.keep S2.out.below) hN HS.out HSY.out (cell_be HC0.out S2.out.below) hpos hlt HALL.out).mono ?_
            rintro e w3 ⟨bel, ⟨hi, rfl⟩ | ⟨L, g, c3, hi, rfl, own⟩⟩
            · have S3 := Lib.hid (S2.out.go bel)
              have NO2 := Lib.hid (fstI_none NO.out hi)
              clear bel hi
              go_wp2
              go_roundw
              case rel => exact ⟨j + 1, by omega, by go_num, S3.out, NO2.out⟩
              case measure => simp [intOf]; omega
            · have S3 := Lib.hid (S2.out.go bel)
              have YES := Lib.hid (fstI_some NO.out hi hlt)
              have OWN := Lib.hid (own_base own S2.out.lo)
              clear bel hi own
              go_wp2
              go_ret
              exact ⟨S3.out.below, .inr ⟨L, g, c3, by have h := HF.out; simp at h; rw [h]; exact YES.out, rfl, OWN.out⟩⟩
          · have h := NO.out
            rw [show j = n by omega] at h
            have NO2 := Lib.hid h
            clear h
            go_wp2
            go_ret
            exact ⟨S2.out.below, .inl ⟨by have h := HF.out; simp at h; rw [h]; exact NO2.out, rfl⟩⟩
    · have hNI : ¬ ((n : Int) = (n1 : Int)) := by omega
      go_region_law ((first
        | (go_simp; go_at_call 102
           refine (rank_bel _).mono ?_
           rintro e wq ⟨rfl, belq⟩
           first
           | have Sb := Lib.hid (Sa.out.go belq)
             have xSb := (Sb.out.blk (i := 0) rfl).cell (i := 0) rfl
             have ySb := (Sb.out.blk (i := 1) rfl).cell (i := 0) rfl
           | have Sa := Lib.hid (S.out.go belq)
             have xSa := (Sa.out.blk (i := 0) rfl).cell (i := 0) rfl
             have ySa := (Sa.out.blk (i := 1) rfl).cell (i := 0) rfl
           clear belq)
        | (go_simp; go_at_call 108
           first
           | refine (flags_bel _ hpos2 (cell_be HC2.out Sc.out.below)).mono ?_
             rintro e wq ⟨rfl, belq⟩
             have Sd := Lib.hid (Sc.out.go belq)
             have xSd := (Sd.out.blk (i := 0) rfl).cell (i := 0) rfl
             have ySd := (Sd.out.blk (i := 1) rfl).cell (i := 0) rfl
           | refine (flags_bel _ hpos (cell_be HC0.out Sb.out.below)).mono ?_
             rintro e wq ⟨rfl, belq⟩
             have Sc := Lib.hid (Sb.out.go belq)
             have xSc := (Sc.out.blk (i := 0) rfl).cell (i := 0) rfl
             have ySc := (Sc.out.blk (i := 1) rfl).cell (i := 0) rfl
           clear belq)))
      all_goals
        go_wp2
        go_ret
        exact ⟨Sd.out.below, .inl ⟨by rw [HF.out, if_neg (fun h => hnn h.2)], rfl⟩⟩
  · have hNI : ¬ ((N : Int) = (k : Int)) := by omega
    go_region_law ((first
      | (go_simp; go_at_call 102
         refine (rank_bel _).mono ?_
         rintro e wq ⟨rfl, belq⟩
         first
         | have Sb := Lib.hid (Sa.out.go belq)
           have xSb := (Sb.out.blk (i := 0) rfl).cell (i := 0) rfl
           have ySb := (Sb.out.blk (i := 1) rfl).cell (i := 0) rfl
         | have Sa := Lib.hid (S.out.go belq)
           have xSa := (Sa.out.blk (i := 0) rfl).cell (i := 0) rfl
           have ySa := (Sa.out.blk (i := 1) rfl).cell (i := 0) rfl
         clear belq)
      | (go_simp; go_at_call 108
         first
         | refine (flags_bel _ hpos2 (cell_be HC2.out Sc.out.below)).mono ?_
           rintro e wq ⟨rfl, belq⟩
           have Sd := Lib.hid (Sc.out.go belq)
           have xSd := (Sd.out.blk (i := 0) rfl).cell (i := 0) rfl
           have ySd := (Sd.out.blk (i := 1) rfl).cell (i := 0) rfl
         | refine (flags_bel _ hpos (cell_be HC0.out Sb.out.below)).mono ?_
           rintro e wq ⟨rfl, belq⟩
           have Sc := Lib.hid (Sb.out.go belq)
           have xSc := (Sc.out.blk (i := 0) rfl).cell (i := 0) rfl
           have ySc := (Sc.out.blk (i := 1) rfl).cell (i := 0) rfl
         clear belq)))
    all_goals
      go_wp2
      go_ret
      exact ⟨Sb.out.below, .inl ⟨by rw [HF.out, if_neg (fun h => hNk h.1)], rfl⟩⟩
end Go.Proofs.Ytmikoihpmhfafaa
