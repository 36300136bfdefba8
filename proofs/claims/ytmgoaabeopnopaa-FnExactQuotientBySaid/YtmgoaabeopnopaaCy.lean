/- spec.l07Cover and spec.l07Covering. -/
import Derived.Test.YtmgoaabeopnopaaCq
import Derived.Test.YtmgoaabeopnopaaCvs
import Derived.Test.YtmgoaabeopnopaaL19
import Derived.Test.YtmgoaabeopnopaaL9
namespace Go.Proofs.Ytmgoaabeopnopaa
open Go.RowKit

/-- The covering that gives the flag 0 a flag, if there is one. -/
noncomputable def cvO7 (xss yss : List (List Int)) (q : Nat) : Option (List Int) := if xss.length = yss.length then cvL xss yss (flN xss) (flN yss) q else none
section
variable {xss yss : List (List Int)} {L L' : List Int} {q : Nat}
theorem cvO7_len (h : cvO7 xss yss q = some L) : L.length = flN xss := by
  unfold cvO7 at h
  split at h
  · exact cvL_len h
  · cases h
theorem cvO7_of (hm : IsMan xss) (h0 : fz L 0 = (q : Int)) (hc : IsCov7 xss yss L) : cvO7 xss yss q = some L := by
  have hn : 0 < flN xss := by have := hm.f2; omega
  unfold cvO7
  rw [if_pos hc.1]
  exact cvL_some hm.sys hc.1 hn (hm.all hn) hc.2 h0
theorem cvO7_none (hm : IsMan xss) (h0 : fz L 0 = (q : Int)) (h : cvO7 xss yss q = none) : cvB7 xss yss L = false := cvB7_false fun hc => by
  rw [cvO7_of hm h0 hc] at h
  cases h
theorem cvO7_some (hm : IsMan xss) (h0 : fz L 0 = (q : Int)) (h : cvO7 xss yss q = some L') : decide (L' = L) = cvB7 xss yss L := by
  by_cases he : L' = L
  · subst he
    rw [decide_eq_true rfl]
    unfold cvO7 at h
    split at h
    · rename_i hl
      exact (cvB7_iff.2 ⟨hl, (cvL_hom h).1⟩).symm
    · cases h
  · rw [decide_eq_false he]
    exact (cvB7_false fun hc => by
      rw [cvO7_of hm h0 hc] at h
      injection h with h
      exact he h.symm).symm
end

set_option maxHeartbeats 6400000 in
set_option maxRecDepth 8000 in
theorem sCover_any {A A1 : Option Addr} {c c1 N k q : Nat} {xss yss : List (List Int)} (w : World) (hm1 : okMan xss = true) (hm2 : okMan yss = true) (hx : xss.length = N) (hk : yss.length = k) (ha : RdSS w A xss) (hb : RdSS w A1 yss) (hq : q < flN yss) :
    Calls Try.prog 148 #[.agg #[.slice A N c], .agg #[.slice A1 k c1], .int .i64 q] w (IsoRetB w (flN xss) (cvO7 xss yss q)) := by
  have hman := okMan_iff.1 hm1
  have hman2 := okMan_iff.1 hm2
  have hsys := hman.sys
  have hsy := hman2.sys
  have hn4 := hman.f4
  have hn2 := hman.f2
  have hpos := hman.pos hx
  have hN : N ≤ 1048576 := by have := hman.r5; omega
  have hall := hman.all (q := 0) (by omega)
  obtain ⟨b, o, A0, c0, rfl, hc0⟩ := man_row0 hman ha
  obtain ⟨b1, o1, A2, c2, rfl, hc2⟩ := man_row0 hman2 hb
  obtain ⟨n, hn⟩ : ∃ n, flN xss = n := ⟨_, rfl⟩
  obtain ⟨n1, hn1⟩ : ∃ n, flN yss = n := ⟨_, rfl⟩
  have hf : cvO7 xss yss q = if N = k then cvL xss yss n n1 q else none := by rw [cvO7, hx, hk, hn, hn1]
  obtain ⟨F, hF⟩ : ∃ F, cvO7 xss yss q = F := ⟨_, rfl⟩
  rw [hF] at hf ⊢
  rw [hn]
  rw [hn] at hc0 hsys hn2 hn4 hall
  rw [hn1] at hc2 hsy hq
  have hq4 : n1 ≤ 400 := by have := (sys_parts hsy).2.1; omega
  have HF := Lib.hid hf
  have HX := Lib.hid hx
  have HK := Lib.hid hk
  have HA := Lib.hid ha
  have HB := Lib.hid hb
  have HC0 := Lib.hid hc0
  have HS := Lib.hid hsys
  have HSY := Lib.hid hsy
  have HALL := Lib.hid hall
  have st0 := ((St.start w).addBlk #[.slice (some ⟨b, o, none⟩) N c] 27).addBlk #[.slice (some ⟨b1, o1, none⟩) k c1] 27
  simp at st0
  have S0 := Lib.hid st0
  have x0 := (st0.blk (i := 0) rfl).cell (i := 0) rfl
  have y0 := (st0.blk (i := 1) rfl).cell (i := 0) rfl
  have hn0 : 0 < n := by omega
  clear st0 hx hk ha hb hc0 hc2 hsys hsy hall hman hman2 hm1 hm2 hf hF hn hn1
  go_enter Try.func148, Try.ntmps148
  by_cases hNk : N = k
  · subst hNk
    go_wp2_with fail
    refine (sisoC_any (q := q) _ HX.out (HA.out.keep S0.out.below) HK.out (HB.out.keep S0.out.below) hN HS.out HSY.out (cell_be HC0.out S0.out.below) hpos hn0 hq HALL.out).mono ?_
    rintro e w3 ⟨bel, ⟨hi, rfl⟩ | ⟨L, g, c3, hi, rfl, own⟩⟩
    · have S3 := Lib.hid (S0.out.go bel)
      have HI := Lib.hid hi
      clear bel hi
      go_wp2
      go_ret2
      exact ⟨S3.out.below, .inl ⟨by have h := HF.out; simp at h; rw [h]; exact HI.out, rfl⟩⟩
    · have S3 := Lib.hid (S0.out.go bel)
      have HI := Lib.hid hi
      have OWN := Lib.hid (own_base own S0.out.lo)
      clear bel hi own
      go_wp2
      go_ret2
      exact ⟨S3.out.below, .inr ⟨L, g, c3, by have h := HF.out; simp at h; rw [h]; exact HI.out, rfl, OWN.out⟩⟩
  · have hNI : ¬ ((N : Int) = (k : Int)) := by omega
    have HD := Lib.hid hNk
    clear hNk
    go_wp2
    go_ret2
    exact ⟨S0.out.below, .inl ⟨by rw [HF.out, if_neg HD.out], rfl⟩⟩
theorem sCover_none {A A1 : Option Addr} {c c1 N k q : Nat} {xss yss : List (List Int)} (w : World) (hm1 : okMan xss = true) (hm2 : okMan yss = true) (hx : xss.length = N) (hk : yss.length = k) (ha : RdSS w A xss) (hb : RdSS w A1 yss) (hq : q < flN yss) (h : cvO7 xss yss q = none) :
    Calls Try.prog 148 #[.agg #[.slice A N c], .agg #[.slice A1 k c1], .int .i64 q] w fun e w' => e = .returned (.tuple #[.slice none 0 0, .bool false]) ∧ Below w.heap.size w w' :=
  (sCover_any w hm1 hm2 hx hk ha hb hq).mono fun e w' hp => by
    rw [h] at hp
    obtain ⟨bel, ⟨_, rfl⟩ | ⟨L, g, c3, hi, _, _⟩⟩ := hp
    · exact ⟨rfl, bel⟩
    · cases hi
theorem sCover_some {A A1 : Option Addr} {c c1 N k q : Nat} {xss yss : List (List Int)} {L : List Int} (w : World) (hm1 : okMan xss = true) (hm2 : okMan yss = true) (hx : xss.length = N) (hk : yss.length = k) (ha : RdSS w A xss) (hb : RdSS w A1 yss) (hq : q < flN yss) (h : cvO7 xss yss q = some L) :
    Calls Try.prog 148 #[.agg #[.slice A N c], .agg #[.slice A1 k c1], .int .i64 q] w fun e w' => ∃ g c3, e = .returned (.tuple #[.slice (some ⟨g, 0, none⟩) (flN xss) c3, .bool true]) ∧ w'.ownsRow w.heap.size 2 1 (.slice (some ⟨g, 0, none⟩) (flN xss) c3) (flN xss) (ints L) ∧ Below w.heap.size w w' :=
  (sCover_any w hm1 hm2 hx hk ha hb hq).mono fun e w' hp => by
    rw [h] at hp
    obtain ⟨bel, ⟨hi, _⟩ | ⟨L', g, c3, hi, rfl, own⟩⟩ := hp
    · cases hi
    · injection hi with hi
      subst hi
      exact ⟨g, c3, rfl, own, bel⟩

set_option maxHeartbeats 6400000 in
set_option maxRecDepth 8000 in
theorem sCovering_any {AL A A1 : Option Addr} {nL cL N c k c1 : Nat} {xss yss : List (List Int)} {L : List Int} {r : Bool} (w : World) (hm1 : okMan xss = true) (hm2 : okMan yss = true) (hx : xss.length = N) (hk : yss.length = k) (hl : L.length = nL) (ha : RdSS w A xss) (hb : RdSS w A1 yss) (hL : Rd w AL (ints L)) (hLn : nL ≤ 1048576) (hr : cvB7 xss yss L = r) :
    Calls Try.prog 93 #[.agg #[.slice A N c], .agg #[.slice A1 k c1], .slice AL nL cL] w fun e w' => e = .returned (.bool r) ∧ Below w.heap.size w w' := by
  have hman := okMan_iff.1 hm1
  have hman2 := okMan_iff.1 hm2
  have hn4 := hman.f4
  have hn2 := hman.f2
  have hk4 := hman2.f4
  have hpos := hman.pos hx
  have hpos2 := hman2.pos hk
  obtain ⟨b, o, A0, c0, rfl, hc0⟩ := man_row0 hman ha
  obtain ⟨b1, o1, A2, c2, rfl, hc2⟩ := man_row0 hman2 hb
  obtain ⟨n, hn⟩ : ∃ n, flN xss = n := ⟨_, rfl⟩
  obtain ⟨n1, hn1⟩ : ∃ n, flN yss = n := ⟨_, rfl⟩
  have NOL := Lib.hid (fun (h : L.length ≠ n) => cv_noL (xss := xss) (yss := yss) (L := L) (by rw [hn]; exact h))
  have NOI := Lib.hid (fun (t : Nat) (y : Int) (ht : t < n) (hy : L[t]? = some y) (h : flagB n1 y = false) => cv_noI (xss := xss) (yss := yss) (by rw [hn]; exact ht) hy (by rw [hn1]; exact h))
  have HM := Lib.hid hman
  have H1 := Lib.hid hm1
  have H2 := Lib.hid hm2
  have HN := Lib.hid hn
  have HN1 := Lib.hid hn1
  rw [hn] at hc0 hn2 hn4
  rw [hn1] at hc2 hk4
  have HX := Lib.hid hx
  have HK := Lib.hid hk
  have HLL := Lib.hid hl
  have HA := Lib.hid ha
  have HB := Lib.hid hb
  have HL := Lib.hid hL
  have HC0 := Lib.hid hc0
  have HC2 := Lib.hid hc2
  have HR := Lib.hid hr
  have st0 := ((St.start w).addBlk #[.slice (some ⟨b, o, none⟩) N c] 27).addBlk #[.slice (some ⟨b1, o1, none⟩) k c1] 27
  simp at st0
  have S := Lib.hid st0
  have x0 := BelowOf.cell ((st0.blk (i := 0) rfl).cell (i := 0) rfl)
  have y0 := BelowOf.cell ((st0.blk (i := 1) rfl).cell (i := 0) rfl)
  have HCW := Lib.hid (cell_be hc0 S.out.below)
  have HCV := Lib.hid (cell_be hc2 S.out.below)
  clear st0 hx hk ha hb hc0 hc2 hman hman2 hm1 hm2 hn hn1 hr hL
  by_cases hnn : nL = n
  case neg =>
    have HF := Lib.hid (NOL.out (by rw [hl]; exact hnn))
    have hNI : ((nL : Int) != (n : Int)) = true := by rw [bne_iff_ne]; omega
    clear hl
    go_enter Try.func93, Try.ntmps93
    go_wp2
    refine wp_region_quiet_below (by kernel_rfl) (by kernel_rfl) ?_
    repeat (go_big_quiet_step ((go_at_call 87; exact Calls.below_of (sFlags_bel _ hpos (BelowOf.cell HCW.out _)))))
    refine wpQuiet_nil ?_
    intro wq hw'
    obtain ⟨⟨wv, hbq⟩, hw''⟩ := hw'
    subst hw''
    have Sa := Lib.hid (S.out.go hbq)
    go_wp2
    go_ret
    exact ⟨ret_bool (by rw [← HR.out, HF.out]), Sa.out.below⟩
  case pos =>
    subst hnn
    clear hl
    obtain ⟨bl, ol, y, hAL, hgy, hcy⟩ := HL.out.int (k := 0) (by rw [HLL.out]; omega)
    subst hAL
    rw [Nat.add_zero] at hcy
    have HCY := Lib.hid hcy
    have HGY := Lib.hid hgy
    obtain ⟨fb, hfb⟩ : ∃ fb, flagB n1 y = fb := ⟨_, rfl⟩
    have HFB := Lib.hid hfb
    have hcyS := BelowOf.cell (cell_be HCY.out S.out.below)
    have hnL0 : 0 < nL := by omega
    clear hgy hfb hcy
    cases fb with
    | false =>
      have HF := Lib.hid (NOI.out 0 y hnL0 HGY.out HFB.out)
      go_enter Try.func93, Try.ntmps93
      go_wp2
      refine wp_region_quiet_below (by kernel_rfl) (by kernel_rfl) ?_
      repeat (go_big_quiet_step ((first | (go_at_call 87; exact Calls.below_of (sFlags_bel _ hpos (BelowOf.cell HCW.out _))) | (go_at_call 96; exact Calls.below_of (sFlag_bel y _ hpos2 (BelowOf.cell HCV.out _) (by omega) HFB.out)))))
      refine wpQuiet_nil ?_
      intro wq hw'
      obtain ⟨⟨wv, hbq⟩, hw''⟩ := hw'
      subst hw''
      have Sb := Lib.hid (S.out.go hbq)
      go_wp2
      go_ret
      exact ⟨ret_bool (by rw [← HR.out, HF.out]), Sb.out.below⟩
    | true =>
      obtain ⟨q, rfl, hq⟩ := flagB_true HFB.out
      have H0 := Lib.hid (show fz L 0 = (q : Int) from fz_at HGY.out)
      obtain ⟨F, hF⟩ : ∃ F, cvO7 xss yss q = F := ⟨_, rfl⟩
      have HF := Lib.hid hF
      clear hF
      cases F with
      | none =>
        have HN0 := Lib.hid (cvO7_none HM.out H0.out HF.out)
        go_enter Try.func93, Try.ntmps93
        go_wp2
        refine wp_region_quiet_below (by kernel_rfl) (by kernel_rfl) ?_
        repeat (go_big_quiet_step ((first | (go_at_call 87; exact Calls.below_of (sFlags_bel _ hpos (BelowOf.cell HCW.out _))) | (go_at_call 96; exact Calls.below_of (sFlag_bel (q : Int) _ hpos2 (BelowOf.cell HCV.out _) (by omega) HFB.out)))))
        refine wpQuiet_nil ?_
        intro wq hw'
        obtain ⟨⟨wv, hbq⟩, hw''⟩ := hw'
        subst hw''
        have Sb := Lib.hid (S.out.go hbq)
        have Sc := Lib.hid (Sb.out.go (below_drewN (Below.refl _ _) 1))
        have xSb := (Sb.out.blk (i := 0) rfl).cell (i := 0) rfl
        have ySb := (Sb.out.blk (i := 1) rfl).cell (i := 0) rfl
        have hcySb := cell_be HCY.out Sb.out.below
        clear S x0 y0 hcyS hbq HCW HCV
        go_wp2
        go_region_law ((go_simp; go_at_call 148
                        refine (sCover_none (q := q) _ H1.out H2.out HX.out HK.out (HA.out.keep Sc.out.below) (HB.out.keep Sc.out.below) (by rw [HN1.out]; exact hq) HF.out).mono ?_
                        rintro e ws ⟨rfl, belq⟩
                        have Sd := Lib.hid (Sc.out.go belq)
                        clear belq))
        all_goals
          go_wp2
          go_ret
          exact ⟨ret_bool (by rw [← HR.out, HN0.out]), Sd.out.below⟩
      | some L' =>
        have HS0 := Lib.hid (cvO7_some HM.out H0.out HF.out)
        have HLEN := Lib.hid ((cvO7_len HF.out).trans HN.out)
        go_enter Try.func93, Try.ntmps93
        go_wp2
        refine wp_region_quiet_below (by kernel_rfl) (by kernel_rfl) ?_
        repeat (go_big_quiet_step ((first | (go_at_call 87; exact Calls.below_of (sFlags_bel _ hpos (BelowOf.cell HCW.out _))) | (go_at_call 96; exact Calls.below_of (sFlag_bel (q : Int) _ hpos2 (BelowOf.cell HCV.out _) (by omega) HFB.out)))))
        refine wpQuiet_nil ?_
        intro wq hw'
        obtain ⟨⟨wv, hbq⟩, hw''⟩ := hw'
        subst hw''
        have Sb := Lib.hid (S.out.go hbq)
        have Sc := Lib.hid (Sb.out.go (below_drewN (Below.refl _ _) 1))
        have xSb := (Sb.out.blk (i := 0) rfl).cell (i := 0) rfl
        have ySb := (Sb.out.blk (i := 1) rfl).cell (i := 0) rfl
        have hcySb := cell_be HCY.out Sb.out.below
        clear S x0 y0 hcyS hbq HCW HCV
        go_wp2
        go_region_law ((go_simp; go_at_call 148
                        refine (sCover_some (q := q) _ H1.out H2.out HX.out HK.out (HA.out.keep Sc.out.below) (HB.out.keep Sc.out.below) (by rw [HN1.out]; exact hq) HF.out).mono ?_
                        rintro e ws ⟨g, c3, rfl, own, belq⟩
                        rw [HN.out] at own ⊢
                        have OWN := Lib.hid own
                        have Sd := Lib.hid (Sc.out.go belq)
                        clear belq own))
        all_goals
          go_wp2_with fail
          refine (same_val _ HLEN.out HLL.out (own_rd OWN.out) (HL.out.keep Sd.out.below) (by omega) (by omega) HS0.out).mono ?_
          rintro e wt ⟨rfl, j, rfl⟩
          have Se := Lib.hid (Sd.out.go (below_drewN (Below.refl _ _) j))
          go_wp2
          go_ret
          exact ⟨ret_bool HR.out, Se.out.below⟩
end Go.Proofs.Ytmgoaabeopnopaa
