/- impl.coverings and spec.l07Covers; fibres of both. -/
import Derived.Test.YtmgoaabeopnopaaCy
namespace Go.Proofs.Ytmgoaabeopnopaa
open Go.RowKit

theorem covTo_some7 {xss yss : List (List Int)} {j : Nat} {L : List Int} (hl : xss.length = yss.length) (h : cvO7 xss yss j = some L) : covTo xss yss (flN xss) (flN yss) (j + 1) = covTo xss yss (flN xss) (flN yss) j ++ [L] := by
  unfold cvO7 at h
  rw [if_pos hl] at h
  exact covTo_some h
theorem covTo_none7 {xss yss : List (List Int)} {j : Nat} (hl : xss.length = yss.length) (h : cvO7 xss yss j = none) : covTo xss yss (flN xss) (flN yss) (j + 1) = covTo xss yss (flN xss) (flN yss) j := by
  unfold cvO7 at h
  rw [if_pos hl] at h
  exact covTo_none h

set_option maxHeartbeats 6400000 in
set_option maxRecDepth 8000 in
theorem iCovs_any {A A1 : Option Addr} {c c1 N k : Nat} {xss yss : List (List Int)} (w : World) (hm1 : okMan xss = true) (hm2 : okMan yss = true) (hx : xss.length = N) (hk : yss.length = k) (ha : RdSS w A xss) (hb : RdSS w A1 yss) :
    Calls Try.prog 92 #[.agg #[.slice A N c], .agg #[.slice A1 k c1]] w (RetSL w (covL7 xss yss)) := by
  have hman := okMan_iff.1 hm1
  have hman2 := okMan_iff.1 hm2
  have hsys := hman.sys
  have hsy := hman2.sys
  have hn4 := hman.f4
  have hn2 := hman.f2
  have hpos := hman.pos hx
  have hpos2 := hman2.pos hk
  have hN : N ≤ 1048576 := by have := hman.r5; omega
  have hall := hman.all (q := 0) (by omega)
  obtain ⟨b, o, A0, c0, rfl, hc0⟩ := man_row0 hman ha
  obtain ⟨b1, o1, A2, c2, rfl, hc2⟩ := man_row0 hman2 hb
  obtain ⟨n, hn⟩ : ∃ n, flN xss = n := ⟨_, rfl⟩
  obtain ⟨n1, hn1⟩ : ∃ n, flN yss = n := ⟨_, rfl⟩
  have hf : covL7 xss yss = if N = k then covTo xss yss n n1 n1 else [] := by rw [covL7, hx, hk, hn, hn1]
  have hk4 := hman2.f4
  rw [hf]
  have HN := Lib.hid hn
  have HN1 := Lib.hid hn1
  have H1 := Lib.hid hm1
  have H2 := Lib.hid hm2
  have SOME := Lib.hid (fun (e : N = k) (j : Nat) (L : List Int) (h : cvO7 xss yss j = some L) => covTo_some7 (by rw [hx, hk]; exact e) h)
  have NONE := Lib.hid (fun (e : N = k) (j : Nat) (h : cvO7 xss yss j = none) => covTo_none7 (by rw [hx, hk]; exact e) h)
  have OFF := Lib.hid (fun (e : N ≠ k) (j : Nat) => (show cvO7 xss yss j = none by rw [cvO7, hx, hk, if_neg e]))
  rw [hn, hn1] at SOME NONE
  rw [hn] at hc0 hsys hn2 hn4 hall
  rw [hn1] at hc2 hsy hk4
  have HX := Lib.hid hx
  have HK := Lib.hid hk
  have HA := Lib.hid ha
  have HB := Lib.hid hb
  have HC0 := Lib.hid hc0
  have HC2 := Lib.hid hc2
  have HS := Lib.hid hsys
  have HSY := Lib.hid hsy
  have HALL := Lib.hid hall
  have hn0 : 0 < n := by omega
  clear hx hk ha hb hc0 hc2 hsys hsy hall hman hman2 hm1 hm2 hf hn hn1
  have st0 := ((St.start w).addBlk #[.slice (some ⟨b, o, none⟩) N c] 27).addBlk #[.slice (some ⟨b1, o1, none⟩) k c1] 27
  simp at st0
  have S0 := Lib.hid st0
  have x0 := (st0.blk (i := 0) rfl).cell (i := 0) rfl
  have y0 := (st0.blk (i := 1) rfl).cell (i := 0) rfl
  have S := Lib.hid (st0.go (below_drewN (Below.refl _ _) 1))
  clear st0
  obtain ⟨RL, hRL⟩ : ∃ R, (if N = k then covTo xss yss n n1 n1 else []) = R := ⟨_, rfl⟩
  rw [hRL]
  have HRL := Lib.hid hRL
  clear hRL
  go_enter Try.func92, Try.ntmps92
  go_wp2
  by_cases hNk : N = k
  · subst hNk
    have HRL2 := Lib.hid (show covTo xss yss n n1 n1 = RL by have h := HRL.out; rwa [if_pos rfl] at h)
    clear HRL
    go_region_law ((go_simp; go_at_call 138
                    refine (rank_bel _).mono ?_
                    rintro e wq ⟨rfl, belq⟩
                    first
                    | have Sb := Lib.hid (Sa.out.go belq)
                      have xSb := (Sb.out.blk (i := 0) rfl).cell (i := 0) rfl
                      have ySb := (Sb.out.blk (i := 1) rfl).cell (i := 0) rfl
                    | have Sa := Lib.hid (S.out.go belq)
                      have xSa := (Sa.out.blk (i := 0) rfl).cell (i := 0) rfl
                      have ySa := (Sa.out.blk (i := 1) rfl).cell (i := 0) rfl
                    clear belq))
    all_goals
      clear S0 S Sa x0 y0 xSa ySa
      go_wp2_with fail
      refine (flags_bel _ hpos2 (cell_be HC2.out Sb.out.below)).mono ?_
      rintro e w1 ⟨rfl, bel⟩
      have S1 := Lib.hid ((Sb.out.go bel).addNilRows 2 36)
      clear bel Sb xSb ySb
      go_wp2
      go_loopw [5, 15] (fun u i wr => ∃ (j m c' : Nat) (A' : Option Addr) (vals : List Value), j ≤ n1 ∧ m ≤ j ∧ i = .int .i64 j ∧ u = .slice A' m c' ∧ St w wr [.blk w.heap.size #[.slice (some ⟨b, o, none⟩) N c] 27, .blk (w.heap.size + 1) #[.slice (some ⟨b1, o1, none⟩) N c1] 27, .rows 2 36 A' m c' vals (covTo xss yss n n1 j)]) (fun _ i _ => n1 - (intOf i).toNat)
      case atStart => exact ⟨0, 0, 0, _, [], Nat.zero_le _, Nat.le_refl _, rfl, rfl, by simpa [covTo] using S1.out⟩
      case round =>
        obtain ⟨j, m, c', A', vals, hj, hmj, rfl, rfl, st⟩ := hrel
        have S := Lib.hid st
        have x1 := (st.blk (i := 0) rfl).cell (i := 0) rfl
        have y1 := (st.blk (i := 1) rfl).cell (i := 0) rfl
        clear st S1
        have S2 := S
        clear S
        by_cases hlt : j < n1
        · go_wp2_with fail
          refine (iisoC_any (q := j) _ HX.out (HA.out.keep S2.out.below) HK.out (HB.out.keep S2.out.below) hN HS.out HSY.out (cell_be HC0.out S2.out.below) hpos hn0 hlt HALL.out).mono ?_
          rintro e w3 ⟨bel, ⟨hi, rfl⟩ | ⟨L, g, c3, hi, rfl, own⟩⟩
          · have S3 := Lib.hid (S2.out.go bel)
            have NO := Lib.hid (covTo_none hi)
            clear bel hi
            go_wp2
            go_roundw
            case rel => exact ⟨j + 1, m, c', A', vals, by omega, by omega, by go_num, rfl, by rw [NO.out]; exact S3.out⟩
            case measure => simp [intOf]; omega
          · have S3 := Lib.hid (S2.out.addOwn bel own (Nat.le_refl _))
            have YES := Lib.hid (covTo_some hi)
            have LEN := Lib.hid (cvL_len hi)
            have hlo := S3.out.lo
            clear bel hi own
            go_wp2_with (at_builtin; refine wpList_push_at _ rfl _ _ 22 36 rfl Try.underlying22 (.slice none 0 0) 24 Try.infoS rfl w.heap.size _ _ _ rfl (S3.out.rows (i := 2) rfl) _ rfl rfl (by omega) (by omega) hlo ?_)
            intro A8 c8 w8 own8 gr8 hat8
            have st8 := (S3.out.rowPush (i := 2) (j := 3) rfl rfl LEN.out (by decide) (by decide) own8 gr8 hat8).take 3
            have S8 := Lib.hid st8
            clear own8 gr8 hat8 st8
            go_wp2
            go_roundw
            case rel => exact ⟨j + 1, m + 1, c8, A8, _, by omega, by omega, by go_num, rfl, by rw [YES.out]; exact S8.out⟩
            case measure => simp [intOf]; omega
        · obtain rfl : j = n1 := by omega
          have hml := S2.out.sep.rows_len (i := 2) rfl
          have HML := Lib.hid hml
          clear hml
          go_wp2
          go_ret
          exact ⟨A', m, c', rfl, by rw [← HRL2.out]; exact HML.out, by rw [← HRL2.out]; exact (S2.out.sep.ownSS (i := 2) rfl), S2.out.below⟩
  · have HRL2 := Lib.hid (show [] = RL by have h := HRL.out; rwa [if_neg hNk] at h)
    have hNI : ((N : Int) != (k : Int)) = true := by rw [bne_iff_ne]; omega
    go_region_law ((go_simp; go_at_call 138
                    refine (rank_bel _).mono ?_
                    rintro e wq ⟨rfl, belq⟩
                    first
                    | have Sb := Lib.hid (Sa.out.go belq)
                      have xSb := (Sb.out.blk (i := 0) rfl).cell (i := 0) rfl
                      have ySb := (Sb.out.blk (i := 1) rfl).cell (i := 0) rfl
                    | have Sa := Lib.hid (S.out.go belq)
                      have xSa := (Sa.out.blk (i := 0) rfl).cell (i := 0) rfl
                      have ySa := (Sa.out.blk (i := 1) rfl).cell (i := 0) rfl
                    clear belq))
    all_goals
      go_wp2
      go_ret
      exact ⟨none, 0, 0, rfl, by rw [← HRL2.out]; rfl, by rw [← HRL2.out]; exact ownSS_nil _ _ _ _, Sb.out.below⟩

set_option maxHeartbeats 6400000 in
set_option maxRecDepth 8000 in
theorem sCovs_any {A A1 : Option Addr} {c c1 N k : Nat} {xss yss : List (List Int)} (w : World) (hm1 : okMan xss = true) (hm2 : okMan yss = true) (hx : xss.length = N) (hk : yss.length = k) (ha : RdSS w A xss) (hb : RdSS w A1 yss) :
    Calls Try.prog 91 #[.agg #[.slice A N c], .agg #[.slice A1 k c1]] w (RetSL w (covL7 xss yss)) := by
  have hman := okMan_iff.1 hm1
  have hman2 := okMan_iff.1 hm2
  have hsys := hman.sys
  have hsy := hman2.sys
  have hn4 := hman.f4
  have hn2 := hman.f2
  have hpos := hman.pos hx
  have hpos2 := hman2.pos hk
  have hN : N ≤ 1048576 := by have := hman.r5; omega
  have hall := hman.all (q := 0) (by omega)
  obtain ⟨b, o, A0, c0, rfl, hc0⟩ := man_row0 hman ha
  obtain ⟨b1, o1, A2, c2, rfl, hc2⟩ := man_row0 hman2 hb
  obtain ⟨n, hn⟩ : ∃ n, flN xss = n := ⟨_, rfl⟩
  obtain ⟨n1, hn1⟩ : ∃ n, flN yss = n := ⟨_, rfl⟩
  have hf : covL7 xss yss = if N = k then covTo xss yss n n1 n1 else [] := by rw [covL7, hx, hk, hn, hn1]
  have hk4 := hman2.f4
  rw [hf]
  have HN := Lib.hid hn
  have HN1 := Lib.hid hn1
  have H1 := Lib.hid hm1
  have H2 := Lib.hid hm2
  have SOME := Lib.hid (fun (e : N = k) (j : Nat) (L : List Int) (h : cvO7 xss yss j = some L) => covTo_some7 (by rw [hx, hk]; exact e) h)
  have NONE := Lib.hid (fun (e : N = k) (j : Nat) (h : cvO7 xss yss j = none) => covTo_none7 (by rw [hx, hk]; exact e) h)
  have OFF := Lib.hid (fun (e : N ≠ k) (j : Nat) => (show cvO7 xss yss j = none by rw [cvO7, hx, hk, if_neg e]))
  rw [hn, hn1] at SOME NONE
  rw [hn] at hc0 hsys hn2 hn4 hall
  rw [hn1] at hc2 hsy hk4
  have HX := Lib.hid hx
  have HK := Lib.hid hk
  have HA := Lib.hid ha
  have HB := Lib.hid hb
  have HC0 := Lib.hid hc0
  have HC2 := Lib.hid hc2
  have HS := Lib.hid hsys
  have HSY := Lib.hid hsy
  have HALL := Lib.hid hall
  have hn0 : 0 < n := by omega
  clear hx hk ha hb hc0 hc2 hsys hsy hall hman hman2 hm1 hm2 hf hn hn1
  have st0 := (((St.start w).addBlk #[.slice (some ⟨b, o, none⟩) N c] 27).addBlk #[.slice (some ⟨b1, o1, none⟩) k c1] 27).addMadeRows 2 36
  simp at st0
  have S0 := Lib.hid st0
  clear st0
  obtain ⟨CT, hCT⟩ : ∃ f : Nat → List (List Int), f = fun j => if N = k then covTo xss yss n n1 j else [] := ⟨_, rfl⟩
  have HFIN := Lib.hid (show (if N = k then covTo xss yss n n1 n1 else []) = CT n1 by rw [hCT])
  have HC00 := Lib.hid (show CT 0 = [] by rw [hCT]; simp [covTo])
  have CSOME := Lib.hid (fun (j : Nat) (L : List Int) (h : cvO7 xss yss j = some L) => (show CT (j + 1) = CT j ++ [L] by
    by_cases e : N = k
    · rw [hCT]; simp only [if_pos e]; exact SOME.out e j L h
    · rw [OFF.out e j] at h; cases h))
  have CNONE := Lib.hid (fun (j : Nat) (h : cvO7 xss yss j = none) => (show CT (j + 1) = CT j by
    by_cases e : N = k
    · rw [hCT]; simp only [if_pos e]; exact NONE.out e j h
    · rw [hCT]; simp only [if_neg e]))
  rw [HFIN.out]
  clear hCT HFIN
  go_enter Try.func91, Try.ntmps91
  go_wp2
  go_loopw [5, 6] (fun u i wr => ∃ (j m c' : Nat) (A' : Option Addr) (vals : List Value), j ≤ n1 ∧ m ≤ j ∧ i = .int .i64 j ∧ u = .slice A' m c' ∧ St w wr [.blk w.heap.size #[.slice (some ⟨b, o, none⟩) N c] 27, .blk (w.heap.size + 1) #[.slice (some ⟨b1, o1, none⟩) k c1] 27, .rows 2 36 A' m c' vals (CT j)]) (fun _ i _ => n1 - (intOf i).toNat)
  case atStart => exact ⟨0, 0, 0, _, [], Nat.zero_le _, Nat.le_refl _, rfl, rfl, by rw [HC00.out]; exact S0.out⟩
  case round =>
    obtain ⟨j, m, c', A', vals, hj, hmj, rfl, rfl, st⟩ := hrel
    have S := Lib.hid st
    have x1 := (st.blk (i := 0) rfl).cell (i := 0) rfl
    have y1 := (st.blk (i := 1) rfl).cell (i := 0) rfl
    clear st S0
    go_wp2_with fail
    refine (sFlags_bel _ hpos2 (cell_be HC2.out S.out.below)).mono ?_
    rintro e w2 ⟨rfl, bel⟩
    have S2 := Lib.hid (S.out.go bel)
    have x2 := (S2.out.blk (i := 0) rfl).cell (i := 0) rfl
    have y2 := (S2.out.blk (i := 1) rfl).cell (i := 0) rfl
    clear bel x1 y1
    by_cases hlt : j < n1
    · go_wp2_with fail
      refine (sCover_any (q := j) _ H1.out H2.out HX.out HK.out (HA.out.keep S2.out.below) (HB.out.keep S2.out.below) (by rw [HN1.out]; exact hlt)).mono ?_
      rw [HN.out]
      rintro e w3 ⟨bel, ⟨hi, rfl⟩ | ⟨L, g, c3, hi, rfl, own⟩⟩
      · have S3 := Lib.hid (S2.out.go bel)
        have NO := Lib.hid (CNONE.out j hi)
        clear bel hi
        go_wp2
        go_roundw
        case rel => exact ⟨j + 1, m, c', A', vals, by omega, by omega, by go_num, rfl, by rw [NO.out]; exact S3.out⟩
        case measure => simp [intOf]; omega
      · have S3 := Lib.hid (S2.out.addOwn bel own (Nat.le_refl _))
        have YES := Lib.hid (CSOME.out j L hi)
        have LEN := Lib.hid ((cvO7_len hi).trans HN.out)
        have hlo := S3.out.lo
        clear bel hi own
        go_wp2_with (at_builtin; refine wpList_push_at _ rfl _ _ 22 36 rfl Try.underlying22 (.slice none 0 0) 24 Try.infoS rfl w.heap.size _ _ _ rfl (S3.out.rows (i := 2) rfl) _ rfl rfl (by omega) (by omega) hlo ?_)
        intro A8 c8 w8 own8 gr8 hat8
        have st8 := (S3.out.rowPush (i := 2) (j := 3) rfl rfl LEN.out (by decide) (by decide) own8 gr8 hat8).take 3
        have S8 := Lib.hid st8
        clear own8 gr8 hat8 st8
        go_wp2
        go_roundw
        case rel => exact ⟨j + 1, m + 1, c8, A8, _, by omega, by omega, by go_num, rfl, by rw [YES.out]; exact S8.out⟩
        case measure => simp [intOf]; omega
    · obtain rfl : j = n1 := by omega
      have hml := S2.out.sep.rows_len (i := 2) rfl
      have HML := Lib.hid hml
      clear hml
      go_wp2
      go_ret
      exact ⟨A', m, c', rfl, HML.out, (S2.out.sep.ownSS (i := 2) rfl), S2.out.below⟩

set_option maxHeartbeats 3200000 in
set_option maxRecDepth 8000 in
theorem iFib_any {AL : Option Addr} {nL cL : Nat} {L : List Int} (f : Int) (w : World) (hl : L.length = nL) (hL : Rd w AL (ints L)) (hLn : nL ≤ 1048576) :
    Calls Try.prog 100 #[.slice AL nL cL, .int .i64 f] w fun e w' => ∃ A m c, e = .returned (.slice A m c) ∧ (fibL7 L f).length = m ∧ w'.ownsRow w.heap.size 2 1 (.slice A m c) m (ints (fibL7 L f)) ∧ Below w.heap.size w w' := by
  have hf : fibL7 L f = fibTo L f nL := by rw [fibL7, hl]
  rw [hf]
  have HLL := Lib.hid hl
  have HL := Lib.hid hL
  have S0 := Lib.hid ((St.start w).addNil 2)
  clear hl hL hf
  go_enter Try.func100, Try.ntmps100
  go_wp2
  go_loopw [5, 10] (fun u i wr => ∃ (j m c' : Nat) (A' : Option Addr), j ≤ nL ∧ m ≤ j ∧ i = .int .i64 j ∧ u = .slice A' m c' ∧ (fibTo L f j).length = m ∧ St w wr [.own 2 A' m c' (ints (fibTo L f j))]) (fun _ i _ => nL - (intOf i).toNat)
  case atStart => exact ⟨0, 0, 0, _, Nat.zero_le _, Nat.le_refl _, rfl, rfl, rfl, S0.out⟩
  case round =>
    obtain ⟨j, m, c', A', hj, hmj, rfl, rfl, hlen, st⟩ := hrel
    have S := Lib.hid st
    have HLEN := Lib.hid hlen
    clear st S0 hlen
    by_cases hlt : j < nL
    · obtain ⟨bl, ol, y, rfl, hgy, hcy⟩ := (HL.out.keep S.out.below).int (k := j) (by rw [HLL.out]; exact hlt)
      have FY := Lib.hid (show fz L j = y from fz_at hgy)
      clear hgy
      by_cases hy : y = f
      · subst hy
        have YES := Lib.hid (show fibTo L y (j + 1) = fibTo L y j ++ [(j : Int)] by rw [fibTo, if_pos FY.out])
        have hlo := S.out.lo
        go_wp2_with (at_builtin; refine wpList_push_at _ rfl _ _ 36 2 rfl Try.underlying36 (.int .i64 0) 8 Try.info2 rfl w.heap.size _ _ _ rfl (S.out.own (i := 0) rfl) _ rfl rfl (by omega) (by omega) hlo ?_)
        intro A3 c3 w3 own3 gr3 hat3
        have S3 := Lib.hid (S.out.push (i := 0) rfl own3 gr3 hat3)
        clear own3 gr3 hat3
        go_wp2
        go_roundw
        case rel => exact ⟨j + 1, m + 1, c3, A3, by omega, by omega, by go_num, rfl, by rw [YES.out, List.length_append, HLEN.out]; rfl, by rw [YES.out]; simpa [ints] using S3.out⟩
        case measure => simp [intOf]; omega
      · have NO := Lib.hid (show fibTo L f (j + 1) = fibTo L f j by rw [fibTo, if_neg (by rw [FY.out]; exact hy)])
        go_wp2
        go_roundw
        case rel => exact ⟨j + 1, m, c', A', by omega, by omega, by go_num, rfl, by rw [NO.out]; exact HLEN.out, by rw [NO.out]; exact S.out⟩
        case measure => simp [intOf]; omega
    · obtain rfl : j = nL := by omega
      go_wp2
      go_ret
      exact ⟨A', m, c', rfl, HLEN.out, S.out.own (i := 0) rfl, S.out.below⟩

set_option maxHeartbeats 3200000 in
set_option maxRecDepth 8000 in
theorem sFib_any {AL : Option Addr} {nL cL : Nat} {L : List Int} (f : Int) (w : World) (hl : L.length = nL) (hL : Rd w AL (ints L)) (hLn : nL ≤ 1048576) :
    Calls Try.prog 97 #[.slice AL nL cL, .int .i64 f] w fun e w' => ∃ A m c, e = .returned (.slice A m c) ∧ (fibL7 L f).length = m ∧ w'.ownsRow w.heap.size 2 1 (.slice A m c) m (ints (fibL7 L f)) ∧ Below w.heap.size w w' := by
  have hf : fibL7 L f = fibTo L f nL := by rw [fibL7, hl]
  rw [hf]
  have HLL := Lib.hid hl
  have HL := Lib.hid hL
  have S0 := Lib.hid ((St.start w).addMade 2)
  clear hl hL hf
  go_enter Try.func97, Try.ntmps97
  go_wp2
  go_loopw [5, 6] (fun u i wr => ∃ (j m c' : Nat) (A' : Option Addr), j ≤ nL ∧ m ≤ j ∧ i = .int .i64 j ∧ u = .slice A' m c' ∧ (fibTo L f j).length = m ∧ St w wr [.own 2 A' m c' (ints (fibTo L f j))]) (fun _ i _ => nL - (intOf i).toNat)
  case atStart => exact ⟨0, 0, 0, _, Nat.zero_le _, Nat.le_refl _, rfl, rfl, rfl, S0.out⟩
  case round =>
    obtain ⟨j, m, c', A', hj, hmj, rfl, rfl, hlen, st⟩ := hrel
    have S := Lib.hid st
    have HLEN := Lib.hid hlen
    clear st S0 hlen
    by_cases hlt : j < nL
    · obtain ⟨bl, ol, y, rfl, hgy, hcy⟩ := (HL.out.keep S.out.below).int (k := j) (by rw [HLL.out]; exact hlt)
      have FY := Lib.hid (show fz L j = y from fz_at hgy)
      clear hgy
      by_cases hy : y = f
      · subst hy
        have YES := Lib.hid (show fibTo L y (j + 1) = fibTo L y j ++ [(j : Int)] by rw [fibTo, if_pos FY.out])
        have hlo := S.out.lo
        go_wp2_with (at_builtin; refine wpList_push_at _ rfl _ _ 36 2 rfl Try.underlying36 (.int .i64 0) 8 Try.info2 rfl w.heap.size _ _ _ rfl (S.out.own (i := 0) rfl) _ rfl rfl (by omega) (by omega) hlo ?_)
        intro A3 c3 w3 own3 gr3 hat3
        have S3 := Lib.hid (S.out.push (i := 0) rfl own3 gr3 hat3)
        clear own3 gr3 hat3
        go_wp2
        go_roundw
        case rel => exact ⟨j + 1, m + 1, c3, A3, by omega, by omega, by go_num, rfl, by rw [YES.out, List.length_append, HLEN.out]; rfl, by rw [YES.out]; simpa [ints] using S3.out⟩
        case measure => simp [intOf]; omega
      · have NO := Lib.hid (show fibTo L f (j + 1) = fibTo L f j by rw [fibTo, if_neg (by rw [FY.out]; exact hy)])
        go_wp2
        go_roundw
        case rel => exact ⟨j + 1, m, c', A', by omega, by omega, by go_num, rfl, by rw [NO.out]; exact HLEN.out, by rw [NO.out]; exact S.out⟩
        case measure => simp [intOf]; omega
    · obtain rfl : j = nL := by omega
      go_wp2
      go_ret
      exact ⟨A', m, c', rfl, HLEN.out, S.out.own (i := 0) rfl, S.out.below⟩

end Go.Proofs.Ytmgoaabeopnopaa
