/- The double cover: impl.doubleCover, DoubleCover of both sides. -/
import Derived.Test.YtmgoaabeopnopaaIwd
import Derived.Test.YtmgoaabeopnopaaL17
import Derived.Test.YtmgoaabeopnopaaL7
namespace Go.Proofs.Ytmgoaabeopnopaa
open Go.RowKit

/-- A move of the double cover: it changes the sheet. -/
def dcL (M : Nat) (m : List Int) : List Int := (List.range M).map fun (f : Nat) => 2 * fz m ((f / 2 : Nat) : Int) + 1 - ((f % 2 : Nat) : Int)
def dcS (M : Nat) (xss : List (List Int)) : List (List Int) := xss.map (dcL M)
theorem dcL_len (M : Nat) (m : List Int) : (dcL M m).length = M := by simp [dcL]
theorem dcS_len (M : Nat) (xss : List (List Int)) : (dcS M xss).length = xss.length := by simp [dcS]
theorem dcL_succ {M f : Nat} {m : List Int} (h : f < M) : (dcL M m).take (f + 1) = (dcL M m).take f ++ [2 * fz m ((f / 2 : Nat) : Int) + 1 - ((f % 2 : Nat) : Int)] := by
  rw [List.take_add_one]
  simp [dcL, h]
theorem dcS_succ {M k : Nat} {xss : List (List Int)} {m : List Int} (h : xss[k]? = some m) : (dcS M xss).take (k + 1) = (dcS M xss).take k ++ [dcL M m] := by
  rw [List.take_add_one]
  simp [dcS, h]
theorem dcL_two {n t : Nat} {m : List Int} {x : Int} (h : t < n) (hx : m[t]? = some x) : (dcL (2 * n) m).take (2 * (t + 1)) = (dcL (2 * n) m).take (2 * t) ++ [2 * x + 1, 2 * x] := by
  rw [show 2 * (t + 1) = 2 * t + 1 + 1 by omega, dcL_succ (by omega), dcL_succ (by omega), List.append_assoc]
  congr 1
  have e1 : 2 * t / 2 = t := by omega
  have e2 : (2 * t + 1) / 2 = t := by omega
  have e3 : 2 * t % 2 = 0 := by omega
  have e4 : (2 * t + 1) % 2 = 1 := by omega
  rw [e1, e2, e3, e4, fz_at hx]
  simp
noncomputable def dcR7 (xss : List (List Int)) : List (List Int) := if okMan xss = true ∧ colB xss (flN xss) = false ∧ flN xss ≤ 200 then dcS (2 * flN xss) xss else []
noncomputable def dcC7 (xss : List (List Int)) : Int := if okMan xss = true then (if colB xss (flN xss) = true then 5 else (if flN xss ≤ 200 then 0 else 3)) else 1
theorem dcR7_le (xss : List (List Int)) : (dcR7 xss).length ≤ 1048576 ∧ ∀ xs ∈ dcR7 xss, (xs.length : Int) ≤ 1048576 := by
  unfold dcR7
  split
  · rename_i h
    have h5 := (okMan_iff.1 h.1).r5
    have h4 := (okMan_iff.1 h.1).f4
    refine ⟨by rw [dcS_len]; omega, fun xs hx => ?_⟩
    obtain ⟨m, _, rfl⟩ := List.mem_map.1 hx
    rw [dcL_len]
    omega
  · simp

abbrev idcPs (H g N : Nat) (m : Value) (vals : List Value) (L : List (List Int)) : List Pc :=
  [.blk H #[m] 27, .blk (H + 1) #[.slice none 0 0] 27, .rows 2 36 (some ⟨g, 0, none⟩) N N vals L]

set_option maxHeartbeats 3200000 in
set_option maxRecDepth 100000 in
theorem idc_any {b o c N n : Nat} {xss : List (List Int)} (w : World) (hx : xss.length = N) (ha : RdSS w (some ⟨b, o, none⟩) xss) (hsys : okSys n xss = true) (hN : N ≤ 16) :
    Calls Try.prog 107 #[.agg #[.slice (some ⟨b, o, none⟩) N c]] w fun e w' => ∃ A' c', e = .returned (.agg #[.slice A' N c']) ∧ OwnSS w' w.heap.size w'.heap.size 36 A' N c' (dcS (2 * n) xss) ∧ Below w.heap.size w w' := by
  have hn4 := (sys_parts hsys).2.1
  have HX := Lib.hid hx
  have HA := Lib.hid ha
  have HS := Lib.hid hsys
  have HSL := Lib.hid (show (dcS (2 * n) xss).length = N by rw [dcS_len, hx])
  have hmkr := run_make_row' (P := Try.prog) 22 36 (.slice none 0 0) 24 Try.underlying22 Try.infoS rfl .i64 .i64 N (by omega) (by omega)
  have st0 := ((St.start w).addBlk #[.slice (some ⟨b, o, none⟩) N c] 27).addBlk #[.slice none 0 0] 27
  simp at st0
  have S0 := Lib.hid st0
  have hbc := (st0.blk (i := 0) rfl).cell (i := 0) rfl
  clear hx ha hsys st0
  go_enter Try.func107, Try.ntmps107
  go_wp2_with fail
  refine (rank_bel _).mono ?_
  rintro e w1 ⟨rfl, bel⟩
  obtain ⟨vals0, st1⟩ := (S0.out.go bel).addRows (below1 _ _) (ownSS_make w1 N 36 (by unfold maxLen; omega)) (Nat.le_refl _) (by simp)
  clear hbc
  have hbc := (st1.blk (i := 0) rfl).cell (i := 0) rfl
  have S1 := Lib.hid st1
  clear bel S0 st1
  go_wp2
  clear hmkr
  go_loopw [14] (fun v wr => ∃ (r : Nat) (vals : List Value), r ≤ N ∧ v = .int .i64 r ∧ St w wr (idcPs w.heap.size w1.heap.size N (.slice (some ⟨b, o, none⟩) N c) vals (rwTo (dcS (2 * n) xss) N r []))) (fun v _ => N - (intOf v).toNat)
  case atStart => exact ⟨0, vals0, Nat.zero_le _, rfl, by rw [rwTo_zero]; exact S1.out⟩
  case round =>
    obtain ⟨r, vals, hr, rfl, st⟩ := hrel
    clear S1
    clear hbc
    by_cases hrN : r < N
    · obtain ⟨b3, o3, A4, c4, mv, he, hmv, hcm0, hrd, hms⟩ := HA.out.row (k := r) (by rw [HX.out]; exact hrN)
      obtain ⟨rfl, rfl⟩ : b = b3 ∧ o = o3 := by simpa using he
      have hml : mv.length = n := by have := sys_len HS.out hmv; omega
      rw [hml] at hcm0
      have hcm := cell_be hcm0 st.below
      have HRD := Lib.hid hrd
      have HML := Lib.hid hml
      have HMV := Lib.hid hmv
      have HSV := Lib.hid (show (dcS (2 * n) xss)[r]? = some (dcL (2 * n) mv) by simp [dcS, hmv])
      have S2 := Lib.hid st
      have rI : (r : Int) < (N : Int) := by omega
      clear st he hmv hrd hms hml hcm0
      go_wp2
      clear hcm
      go_loopw [21] (fun v wr => ∃ (t : Nat) (vals : List Value), t ≤ n ∧ v = .int .i64 t ∧ St w wr (idcPs w.heap.size w1.heap.size N (.slice (some ⟨b, o, none⟩) N c) vals (rwTo (dcS (2 * n) xss) N r ((dcL (2 * n) mv).take (2 * t)))) ) (fun v _ => n - (intOf v).toNat)
      case atStart => exact ⟨0, vals, Nat.zero_le _, rfl, by simpa using S2.out⟩
      case round =>
        obtain ⟨t, vals, ht, rfl, st⟩ := hrel
        clear S2
        by_cases htn : t < n
        · obtain ⟨b2, o2, x, rfl, hxt, hcx⟩ := (HRD.out.keep st.below).int (k := t) (by rw [HML.out]; exact htn)
          obtain ⟨x, rfl, hx0⟩ := sys_at HS.out HMV.out hxt
          have j1 : IntKind.i64.wrap (2 * (x : Int)) = ((2 * x : Nat) : Int) := (IntWalk.i64_in _ (by omega)).trans (by omega)
          have j2 : IntKind.i64.wrap (((2 * x : Nat) : Int) + 1) = ((2 * x + 1 : Nat) : Int) := (IntWalk.i64_in _ (by omega)).trans (by omega)
          have htwo := dcL_two htn hxt
          rw [show (2 * (x : Int)) = ((2 * x : Nat) : Int) by omega, show (((2 * x : Nat) : Int) + 1) = ((2 * x + 1 : Nat) : Int) by omega] at htwo
          obtain ⟨p, hp⟩ : ∃ p, 2 * x = p := ⟨_, rfl⟩
          obtain ⟨q, hq⟩ : ∃ q, 2 * x + 1 = q := ⟨_, rfl⟩
          rw [hp, show p + 1 = q by omega] at htwo
          rw [hp] at j1 j2
          rw [show p + 1 = q by omega] at j2
          obtain ⟨row, hrow⟩ : ∃ row, (dcL (2 * n) mv).take (2 * t) = row := ⟨_, rfl⟩
          rw [hrow] at htwo st
          have hrl : row.length = 2 * t := by rw [← hrow, List.length_take, dcL_len]; omega
          obtain ⟨m, hm⟩ : ∃ m, 2 * t = m := ⟨_, rfl⟩
          rw [hm] at hrl
          have hm8 : m ≤ 800 := by omega
          have hra : (rwTo (dcS (2 * n) xss) N r row)[r]? = some row := rwTo_at hrN
          obtain ⟨A1, c1r, hv, ow⟩ := st.rowAt (i := 2) (k := r) rfl hra
          rw [hrl] at hv ow
          have hc1 := own_cell (st.rows (i := 2) rfl) hv
          have hlo := st.lo
          have HTWO := Lib.hid htwo
          have HRA := Lib.hid hra
          have HV := Lib.hid (show vals[r]? = some (Value.slice A1 row.length c1r) by rw [hrl]; exact hv)
          have HCAT := Lib.hid (show ints (row ++ [(q : Int), (p : Int)]) = ints row ++ [.int .i64 (q : Int), .int .i64 (p : Int)] by simp)
          have HLEN := Lib.hid (show (row ++ [(q : Int), (p : Int)]).length = m + 2 by simp [hrl])
          have HRL := Lib.hid hrl
          have HM := Lib.hid hm
          have HUS := Lib.hid (cell_lit2 wr (.int .i64 (q : Int)) (.int .i64 (p : Int)) 2)
          have HONE := Lib.hid (one_lit2 (show (.int .i64 (q : Int) : Value).oneCell' = true from rfl) (show (.int .i64 (p : Int) : Value).oneCell' = true from rfl))
          have HOWN := Lib.hid (ow.alloc (.cells #[.int .i64 (q : Int), .int .i64 (p : Int)] 2))
          have hlo2 : w.heap.size ≤ (wr.alloc (.cells #[.int .i64 (q : Int), .int .i64 (p : Int)] 2)).heap.size := by simp; omega
          have S3 := Lib.hid st
          clear st hxt hx0 htwo hp hq hrow hrl hm hra hv ow
          go_wp2_with (at_builtin; refine wpList_cat_at _ rfl (.tmp 30) (.tmp 36) 36 2 rfl Try.underlying36 (.int .i64 0) 8 Try.info2 rfl w.heap.size (.slice A1 m c1r) _ _ rfl HOWN.out ⟨wr.heap.size, 0, none⟩ 2 2 [.int .i64 (q : Int), .int .i64 (p : Int)] rfl rfl HUS.out HONE.out (by omega) (by omega) hlo2 ?_)
          intro A7 c7 w7 own7 gr7 hat7
          obtain ⟨NS, fz, cl⟩ := S3.out.rowTurn (i := 2) rfl (by decide) HRA.out HV.out (below1 _ _) HLEN.out (by rw [HCAT.out]; exact own7) (by rw [HRL.out]; exact gr7) (by rw [HRL.out]; exact hat_of (by simpa using hat7))
          rw [HRL.out] at cl
          have S6 := Lib.hid (show St w (w7.setCell ⟨w1.heap.size, r, none⟩ (.slice A7 (m + 2) c7)) (idcPs w.heap.size w1.heap.size N (.slice (some ⟨b, o, none⟩) N c) (vals.set r (.slice A7 (m + 2) c7)) (rwTo (dcS (2 * n) xss) N r ((dcL (2 * n) mv).take (2 * (t + 1))))) from by
            rw [HTWO.out, ← rwTo_set hrN]
            exact NS)
          clear NS own7 gr7 hat7
          go_wp2
          go_roundw
          case rel => exact ⟨t + 1, _, by omega, by go_num, S6.out⟩
          case measure => simp [intOf]; omega
        · obtain rfl : t = n := by omega
          rw [List.take_of_length_le (l := dcL (2 * t) mv) (by rw [dcL_len]; exact Nat.le_refl _), rwTo_next HSV.out] at st
          have S7 := Lib.hid st
          clear st
          go_wp2
          go_roundw
          case rel => exact ⟨r + 1, _, by omega, by go_num, S7.out⟩
          case measure => simp [intOf]; omega
    · obtain rfl : r = N := by omega
      rw [rwTo_all HSL.out] at st
      have S7 := Lib.hid st
      have z0 := (st.blk (i := 1) rfl).cell (i := 0) rfl
      have f0 := (st.blk (i := 1) rfl).free 0
      clear st
      go_wp2
      have st4 := S7.out.blkSet (i := 1) rfl 0 (.slice (some ⟨w1.heap.size, 0, none⟩) r r)
      have y0 := (st4.blk (i := 1) rfl).cell (i := 0) rfl
      refine bodyPost_ret (v := .agg #[.slice (some ⟨w1.heap.size, 0, none⟩) r r]) (by simp [results, Try.results107, go_sem, y0]) rfl ⟨some ⟨w1.heap.size, 0, none⟩, r, rfl, ?_, st4.below⟩
      exact st4.sep.ownSS (i := 2) rfl

set_option maxHeartbeats 6400000 in
set_option maxRecDepth 100000 in
theorem iDoubleCover_any {A : Option Addr} {c N : Nat} {xss : List (List Int)} (w : World) (hx : xss.length = N) (ha : RdSS w A xss) (hN : N ≤ 1048576) (hr : ∀ xs ∈ xss, (xs.length : Int) ≤ 1048576) :
    Calls Try.prog 45 #[.agg #[.slice A N c]] w (RetMC w (dcR7 xss) (dcC7 xss)) := by
  have HX := Lib.hid hx
  have HA := Lib.hid ha
  have HR := Lib.hid hr
  have st0 := ((St.start w).addBlk #[.slice A N c] 27).addBlk #[.slice none 0 0] 27
  simp at st0
  have S0 := Lib.hid st0
  have hbc := (st0.blk (i := 0) rfl).cell (i := 0) rfl
  clear st0
  cases ho : okMan xss
  · have h1 : dcR7 xss = [] := by simp [dcR7, ho]
    have h2 : dcC7 xss = 1 := by simp [dcC7, ho]
    rw [h1, h2]
    have HO := Lib.hid ho
    clear hx ha hr ho h1 h2
    go_enter Try.func45, Try.ntmps45
    go_wp2_with fail
    refine (iMan_any _ HX.out (HA.out.keep S0.out.below) hN HR.out).mono ?_
    rintro e w1 ⟨rfl, bel⟩
    rw [HO.out]
    have st1 := S0.out.go bel
    have z0 := (st1.blk (i := 1) rfl).cell (i := 0) rfl
    have f0 := (st1.blk (i := 1) rfl).free 0
    have S1 := Lib.hid st1
    clear bel hbc st1
    go_wp2
    have st4 := S1.out.blkSet (i := 1) rfl 0 (.slice none 0 0)
    have y0 := (st4.blk (i := 1) rfl).cell (i := 0) rfl
    refine bodyPost_ret (v := .tuple #[.agg #[.slice none 0 0], .int .i64 1]) (by simp [results, Try.results45, go_sem, y0]) rfl ⟨none, 0, rfl, ownSS_nil _ _ _ _, st4.below⟩
  · have hman := okMan_iff.1 ho
    have hsys := hman.sys
    have hn4 := hman.f4
    have hn2 := hman.f2
    have hN5 := hman.r5
    have hpos := hman.pos hx
    have hall := hman.all (q := 0) (by omega)
    rw [hx] at hN5
    obtain ⟨b, o, A0, c0, rfl, hc0⟩ := man_row0 hman ha
    obtain ⟨n, hn⟩ : ∃ n, flN xss = n := ⟨_, rfl⟩
    rw [hn] at hc0 hsys hn4 hn2 hall
    have HC0 := Lib.hid hc0
    have HS := Lib.hid hsys
    have HO := Lib.hid ho
    have HALL := Lib.hid hall
    obtain ⟨CB, hcb⟩ : ∃ B, colB xss n = B := ⟨_, rfl⟩
    have HCB := Lib.hid hcb
    cases CB with
    | true =>
      have h1 : dcR7 xss = [] := by simp [dcR7, hn, hcb]
      have h2 : dcC7 xss = 5 := by simp [dcC7, ho, hn, hcb]
      rw [h1, h2]
      clear hx ha hr ho h1 h2 hman hn hc0 hsys hall hcb
      go_enter Try.func45, Try.ntmps45
      go_wp2_with fail
      refine (iMan_any _ HX.out (HA.out.keep S0.out.below) hN HR.out).mono ?_
      rintro e w1 ⟨rfl, bel⟩
      rw [HO.out]
      have S1 := Lib.hid (S0.out.go bel)
      clear hbc bel
      have hbc := (S1.out.blk (i := 0) rfl).cell (i := 0) rfl
      go_wp2_with fail
      refine (icol_any _ HX.out (HA.out.keep S1.out.below) hN HS.out (cell_be HC0.out S1.out.below) hpos hn2 HALL.out).mono ?_
      rintro e w2 ⟨A2, c2, rfl, own, bel⟩
      rw [HCB.out]
      have st1 := S1.out.go bel
      clear own S1
      have z0 := (st1.blk (i := 1) rfl).cell (i := 0) rfl
      have f0 := (st1.blk (i := 1) rfl).free 0
      have S1 := Lib.hid st1
      clear bel hbc st1
      go_wp2
      have st4 := S1.out.blkSet (i := 1) rfl 0 (.slice none 0 0)
      have y0 := (st4.blk (i := 1) rfl).cell (i := 0) rfl
      refine bodyPost_ret (v := .tuple #[.agg #[.slice none 0 0], .int .i64 5]) (by simp [results, Try.results45, go_sem, y0]) rfl ⟨none, 0, rfl, ownSS_nil _ _ _ _, st4.below⟩
    | false =>
      by_cases h200 : n ≤ 200
      case neg =>
        have h1 : dcR7 xss = [] := by simp [dcR7, hn, h200]
        have h2 : dcC7 xss = 3 := by simp [dcC7, ho, hn, hcb, h200]
        rw [h1, h2]
        have hI2 : (200 : Int) < (n : Int) := by omega
        clear hx ha hr ho h1 h2 hman hn hc0 hsys hall hcb h200
        go_enter Try.func45, Try.ntmps45
        go_wp2_with fail
        refine (iMan_any _ HX.out (HA.out.keep S0.out.below) hN HR.out).mono ?_
        rintro e w1 ⟨rfl, bel⟩
        rw [HO.out]
        have S1 := Lib.hid (S0.out.go bel)
        clear hbc bel
        have hbc := (S1.out.blk (i := 0) rfl).cell (i := 0) rfl
        go_wp2_with fail
        refine (icol_any _ HX.out (HA.out.keep S1.out.below) hN HS.out (cell_be HC0.out S1.out.below) hpos hn2 HALL.out).mono ?_
        rintro e w2 ⟨A2, c2, rfl, own, bel⟩
        rw [HCB.out]
        have S2 := Lib.hid (S1.out.go bel)
        clear hbc bel own S1
        have hbc := (S2.out.blk (i := 0) rfl).cell (i := 0) rfl
        go_wp2_with fail
        refine (flags_bel _ hpos (cell_be HC0.out S2.out.below)).mono ?_
        rintro e w3 ⟨rfl, bel⟩
        have st1 := S2.out.go bel
        clear S2
        have z0 := (st1.blk (i := 1) rfl).cell (i := 0) rfl
        have f0 := (st1.blk (i := 1) rfl).free 0
        have S1 := Lib.hid st1
        clear bel hbc st1
        go_wp2
        have st4 := S1.out.blkSet (i := 1) rfl 0 (.slice none 0 0)
        have y0 := (st4.blk (i := 1) rfl).cell (i := 0) rfl
        refine bodyPost_ret (v := .tuple #[.agg #[.slice none 0 0], .int .i64 3]) (by simp [results, Try.results45, go_sem, y0]) rfl ⟨none, 0, rfl, ownSS_nil _ _ _ _, st4.below⟩
      case pos =>
        have h1 : dcR7 xss = dcS (2 * n) xss := by rw [dcR7, if_pos ⟨ho, by rw [hn]; exact hcb, by rw [hn]; exact h200⟩, hn]
        have h2 : dcC7 xss = 0 := by simp [dcC7, ho, hn, hcb, h200]
        have hll : (dcS (2 * n) xss).length = N := by rw [dcS_len, hx]
        rw [h1, h2]
        have HLL := Lib.hid hll
        have hI2 : ¬ (200 : Int) < (n : Int) := by omega
        clear hx ha hr ho h1 h2 hman hn hc0 hsys hall hcb hll h200
        go_enter Try.func45, Try.ntmps45
        go_wp2_with fail
        refine (iMan_any _ HX.out (HA.out.keep S0.out.below) hN HR.out).mono ?_
        rintro e w1 ⟨rfl, bel⟩
        rw [HO.out]
        have S1 := Lib.hid (S0.out.go bel)
        clear hbc bel
        have hbc := (S1.out.blk (i := 0) rfl).cell (i := 0) rfl
        go_wp2_with fail
        refine (icol_any _ HX.out (HA.out.keep S1.out.below) hN HS.out (cell_be HC0.out S1.out.below) hpos hn2 HALL.out).mono ?_
        rintro e w2 ⟨A2, c2, rfl, own, bel⟩
        rw [HCB.out]
        have S2 := Lib.hid (S1.out.go bel)
        clear hbc bel own S1
        have hbc := (S2.out.blk (i := 0) rfl).cell (i := 0) rfl
        go_wp2_with fail
        refine (flags_bel _ hpos (cell_be HC0.out S2.out.below)).mono ?_
        rintro e w3 ⟨rfl, bel⟩
        have S3 := Lib.hid (S2.out.go bel)
        clear hbc bel S2
        have hbc := (S3.out.blk (i := 0) rfl).cell (i := 0) rfl
        have z0 := (S3.out.blk (i := 1) rfl).cell (i := 0) rfl
        have f0 := (S3.out.blk (i := 1) rfl).free 0
        go_wp2_with fail
        refine (idc_any _ HX.out (HA.out.keep S3.out.below) HS.out (by omega)).mono ?_
        rintro e w4 ⟨A4, c4, rfl, own, bel⟩
        obtain ⟨vals, st⟩ := S3.out.addRows bel own (Nat.le_refl _) (Nat.le_refl _)
        have S4 := Lib.hid st
        clear st own bel z0 f0 hbc
        have z0 := (S4.out.blk (i := 1) rfl).cell (i := 0) rfl
        have f0 := (S4.out.blk (i := 1) rfl).free 0
        go_wp2
        have st4 := S4.out.blkSet (i := 1) rfl 0 (.slice A4 N c4)
        have y0 := (st4.blk (i := 1) rfl).cell (i := 0) rfl
        refine bodyPost_ret (v := .tuple #[.agg #[.slice A4 N c4], .int .i64 0]) (by simp [results, Try.results45, go_sem, y0]) rfl ⟨A4, c4, by rw [HLL.out], ?_, st4.below⟩
        rw [HLL.out]
        exact st4.sep.ownSS (i := 2) rfl

set_option maxHeartbeats 6400000 in
set_option maxRecDepth 100000 in
theorem sDoubleCover_any {A : Option Addr} {c N : Nat} {xss : List (List Int)} (w : World) (hx : xss.length = N) (ha : RdSS w A xss) (hN : N ≤ 1048576) (hr : ∀ xs ∈ xss, (xs.length : Int) ≤ 1048576) :
    Calls Try.prog 44 #[.agg #[.slice A N c]] w (RetMC w (dcR7 xss) (dcC7 xss)) := by
  have HX := Lib.hid hx
  have HA := Lib.hid ha
  have HR := Lib.hid hr
  have st0 := ((St.start w).addBlk #[.slice A N c] 27).addBlk #[.slice none 0 0] 27
  simp at st0
  have S0 := Lib.hid st0
  have hbc := (st0.blk (i := 0) rfl).cell (i := 0) rfl
  clear st0
  cases ho : okMan xss
  · have h1 : dcR7 xss = [] := by simp [dcR7, ho]
    have h2 : dcC7 xss = 1 := by simp [dcC7, ho]
    rw [h1, h2]
    have HO := Lib.hid ho
    clear hx ha hr ho h1 h2
    go_enter Try.func44, Try.ntmps44
    go_wp2_with fail
    refine (sIs_any _ HX.out (HA.out.keep S0.out.below) hN HR.out).mono ?_
    rintro e w1 ⟨rfl, bel⟩
    rw [HO.out]
    have st1 := S0.out.go bel
    have z0 := (st1.blk (i := 1) rfl).cell (i := 0) rfl
    have f0 := (st1.blk (i := 1) rfl).free 0
    have S1 := Lib.hid st1
    clear bel hbc st1
    go_wp2
    have st4 := S1.out.blkSet (i := 1) rfl 0 (.slice none 0 0)
    have y0 := (st4.blk (i := 1) rfl).cell (i := 0) rfl
    refine bodyPost_ret (v := .tuple #[.agg #[.slice none 0 0], .int .i64 1]) (by simp [results, Try.results44, go_sem, y0]) rfl ⟨none, 0, rfl, ownSS_nil _ _ _ _, st4.below⟩
  · have hman := okMan_iff.1 ho
    have hsys := hman.sys
    have hn4 := hman.f4
    have hn2 := hman.f2
    have hN5 := hman.r5
    have hpos := hman.pos hx
    have hall := hman.all (q := 0) (by omega)
    rw [hx] at hN5
    obtain ⟨b, o, A0, c0, rfl, hc0⟩ := man_row0 hman ha
    obtain ⟨n, hn⟩ : ∃ n, flN xss = n := ⟨_, rfl⟩
    rw [hn] at hc0 hsys hn4 hn2 hall
    have HC0 := Lib.hid hc0
    have HS := Lib.hid hsys
    have HO := Lib.hid ho
    have HALL := Lib.hid hall
    obtain ⟨CB, hcb⟩ : ∃ B, colB xss n = B := ⟨_, rfl⟩
    have HCB := Lib.hid hcb
    cases CB with
    | true =>
      have h1 : dcR7 xss = [] := by simp [dcR7, hn, hcb]
      have h2 : dcC7 xss = 5 := by simp [dcC7, ho, hn, hcb]
      rw [h1, h2]
      clear hx ha hr ho h1 h2 hman hn hc0 hsys hall hcb
      go_enter Try.func44, Try.ntmps44
      go_wp2_with fail
      refine (sIs_any _ HX.out (HA.out.keep S0.out.below) hN HR.out).mono ?_
      rintro e w1 ⟨rfl, bel⟩
      rw [HO.out]
      have S1 := Lib.hid (S0.out.go bel)
      clear hbc bel
      have hbc := (S1.out.blk (i := 0) rfl).cell (i := 0) rfl
      go_wp2_with fail
      refine (scol_any _ HX.out (HA.out.keep S1.out.below) hN HS.out (cell_be HC0.out S1.out.below) hpos hn2 HALL.out).mono ?_
      rintro e w2 ⟨A2, c2, rfl, own, bel⟩
      rw [HCB.out]
      have st1 := S1.out.go bel
      clear own S1
      have z0 := (st1.blk (i := 1) rfl).cell (i := 0) rfl
      have f0 := (st1.blk (i := 1) rfl).free 0
      have S1 := Lib.hid st1
      clear bel hbc st1
      go_wp2
      have st4 := S1.out.blkSet (i := 1) rfl 0 (.slice none 0 0)
      have y0 := (st4.blk (i := 1) rfl).cell (i := 0) rfl
      refine bodyPost_ret (v := .tuple #[.agg #[.slice none 0 0], .int .i64 5]) (by simp [results, Try.results44, go_sem, y0]) rfl ⟨none, 0, rfl, ownSS_nil _ _ _ _, st4.below⟩
    | false =>
      by_cases h200 : n ≤ 200
      case neg =>
        have h1 : dcR7 xss = [] := by simp [dcR7, hn, h200]
        have h2 : dcC7 xss = 3 := by simp [dcC7, ho, hn, hcb, h200]
        rw [h1, h2]
        have hI2 : (200 : Int) < (n : Int) := by omega
        clear hx ha hr ho h1 h2 hman hn hc0 hsys hall hcb h200
        go_enter Try.func44, Try.ntmps44
        go_wp2_with fail
        refine (sIs_any _ HX.out (HA.out.keep S0.out.below) hN HR.out).mono ?_
        rintro e w1 ⟨rfl, bel⟩
        rw [HO.out]
        have S1 := Lib.hid (S0.out.go bel)
        clear hbc bel
        have hbc := (S1.out.blk (i := 0) rfl).cell (i := 0) rfl
        go_wp2_with fail
        refine (scol_any _ HX.out (HA.out.keep S1.out.below) hN HS.out (cell_be HC0.out S1.out.below) hpos hn2 HALL.out).mono ?_
        rintro e w2 ⟨A2, c2, rfl, own, bel⟩
        rw [HCB.out]
        have S2 := Lib.hid (S1.out.go bel)
        clear hbc bel own S1
        have hbc := (S2.out.blk (i := 0) rfl).cell (i := 0) rfl
        go_wp2_with fail
        refine (sFlags_bel _ hpos (cell_be HC0.out S2.out.below)).mono ?_
        rintro e w3 ⟨rfl, bel⟩
        have st1 := S2.out.go bel
        clear S2
        have z0 := (st1.blk (i := 1) rfl).cell (i := 0) rfl
        have f0 := (st1.blk (i := 1) rfl).free 0
        have S1 := Lib.hid st1
        clear bel hbc st1
        go_wp2
        have st4 := S1.out.blkSet (i := 1) rfl 0 (.slice none 0 0)
        have y0 := (st4.blk (i := 1) rfl).cell (i := 0) rfl
        refine bodyPost_ret (v := .tuple #[.agg #[.slice none 0 0], .int .i64 3]) (by simp [results, Try.results44, go_sem, y0]) rfl ⟨none, 0, rfl, ownSS_nil _ _ _ _, st4.below⟩
      case pos =>
        have h1 : dcR7 xss = dcS (2 * n) xss := by rw [dcR7, if_pos ⟨ho, by rw [hn]; exact hcb, by rw [hn]; exact h200⟩, hn]
        have h2 : dcC7 xss = 0 := by simp [dcC7, ho, hn, hcb, h200]
        have hll : (dcS (2 * n) xss).length = N := by rw [dcS_len, hx]
        rw [h1, h2]
        have HLL := Lib.hid hll
        have hI2 : ¬ (200 : Int) < (n : Int) := by omega
        obtain ⟨M, hM⟩ : ∃ M, 2 * n = M := ⟨_, rfl⟩
        have jM : IntKind.i64.wrap (2 * (n : Int)) = (M : Int) := (IntWalk.i64_in _ (by omega)).trans (by omega)
        have HM := Lib.hid hM
        have hMb : M ≤ 400 := by omega
        rw [hM] at HLL ⊢
        clear hx ha hr ho h1 h2 hman hn hc0 hsys hall hcb hll h200 hM
        go_enter Try.func44, Try.ntmps44
        go_wp2_with fail
        refine (sIs_any _ HX.out (HA.out.keep S0.out.below) hN HR.out).mono ?_
        rintro e w1 ⟨rfl, bel⟩
        rw [HO.out]
        have S1 := Lib.hid (S0.out.go bel)
        clear hbc bel
        have hbc := (S1.out.blk (i := 0) rfl).cell (i := 0) rfl
        go_wp2_with fail
        refine (scol_any _ HX.out (HA.out.keep S1.out.below) hN HS.out (cell_be HC0.out S1.out.below) hpos hn2 HALL.out).mono ?_
        rintro e w2 ⟨A2, c2, rfl, own, bel⟩
        rw [HCB.out]
        have S2 := Lib.hid (S1.out.go bel)
        clear hbc bel own S1
        have hbc := (S2.out.blk (i := 0) rfl).cell (i := 0) rfl
        go_wp2_with fail
        refine (sFlags_bel _ hpos (cell_be HC0.out S2.out.below)).mono ?_
        rintro e w3 ⟨rfl, bel⟩
        have S4 := Lib.hid (((S2.out.go bel).addBlk #[.slice none 0 0] 27).addNilRows 2 36)
        clear hbc bel S2
        go_wp2
        obtain ⟨gO, hgO⟩ : ∃ g, w3.heap.size = g := ⟨_, rfl⟩
        rw [hgO] at S4 ⊢
        clear hgO
        go_loopw [7] (fun v wr => ∃ (k cR : Nat) (AR : Option Addr) (vals : List Value), k ≤ N ∧ v = .int .i64 k ∧ St w wr [.blk w.heap.size #[.slice (some ⟨b, o, none⟩) N c] 27, .blk (w.heap.size + 1) #[.slice none 0 0] 27, .blk gO #[.slice AR k cR] 27, .rows 2 36 AR k cR vals ((dcS M xss).take k)]) (fun v _ => N - (intOf v).toNat)
        case atStart => exact ⟨0, 0, none, [], Nat.zero_le _, rfl, S4.out⟩
        case round =>
          obtain ⟨k, cR, AR, vals, hk, rfl, st⟩ := hrel
          clear S4
          have hbc := (st.blk (i := 0) rfl).cell (i := 0) rfl
          by_cases hkN : k < N
          · have kI : (k : Int) < (N : Int) := by omega
            obtain ⟨m, hm⟩ : ∃ m, xss[k]? = some m := ⟨_, List.getElem?_eq_getElem (by rw [HX.out]; exact hkN)⟩
            have HM2 := Lib.hid hm
            have S5 := Lib.hid (st.addMade 2)
            obtain ⟨wo, hwo⟩ : ∃ wo, wo = wr := ⟨_, rfl⟩
            subst hwo
            clear st hm
            go_wp2
            clear hbc
            go_loopw [8, 9] (fun u v wr => ∃ (g c7 : Nat) (A7 : Option Addr), g ≤ M ∧ u = .slice A7 g c7 ∧ v = .int .i64 g ∧ St w wr [.blk w.heap.size #[.slice (some ⟨b, o, none⟩) N c] 27, .blk (w.heap.size + 1) #[.slice none 0 0] 27, .blk gO #[.slice AR k cR] 27, .rows 2 36 AR k cR vals ((dcS M xss).take k), .own 2 A7 g c7 (ints ((dcL M m).take g))]) (fun _ v _ => M - (intOf v).toNat)
            case atStart => exact ⟨0, 0, _, Nat.zero_le _, rfl, rfl, S5.out⟩
            case round =>
              obtain ⟨g, c7, A7, hg, rfl, rfl, st⟩ := hrel
              have hbc := (st.blk (i := 0) rfl).cell (i := 0) rfl
              have S6 := Lib.hid st
              clear st S5
              by_cases hgf : g < M
              · have gI : (g : Int) < (M : Int) := by omega
                go_wp2_with fail
                refine (sFlags_bel _ hpos (cell_be HC0.out S6.out.below)).mono ?_
                rintro e wa ⟨rfl, bel⟩
                have S7 := Lib.hid (S6.out.go bel)
                have hlo := S7.out.lo
                clear bel hbc S6
                have hbc := (S7.out.blk (i := 0) rfl).cell (i := 0) rfl
                obtain ⟨b3, o3, A4, c4, m', he, hg3, hc3, hrd, hms⟩ := (HA.out.keep S7.out.below).row (k := k) (by rw [HX.out]; exact hkN)
                obtain ⟨rfl, rfl⟩ : b = b3 ∧ o = o3 := by simpa using he
                obtain rfl : m' = m := by rw [HM2.out] at hg3; injection hg3 with hg3; exact hg3.symm
                have hml := sys_len HS.out hg3
                obtain ⟨lm, hlm⟩ : ∃ l, m'.length = l := ⟨_, rfl⟩
                rw [hlm] at hc3 hms hml
                obtain ⟨p, hp⟩ : ∃ p, g / 2 = p := ⟨_, rfl⟩
                obtain ⟨r, hr⟩ : ∃ r, g % 2 = r := ⟨_, rfl⟩
                have hM3 := HM.out
                obtain ⟨b4, o4, y, rfl, hgy, hcy⟩ := hrd.int (k := p) (by omega)
                obtain ⟨y, rfl, hy0⟩ := sys_at HS.out hg3 hgy
                have q1 : (g : Int) / 2 = (p : Int) := by omega
                have q2 : (g : Int) % 2 = (r : Int) := by omega
                have q3 : (g : Int).tdiv 2 = (p : Int) := by rw [Int.tdiv_eq_ediv_of_nonneg (by omega)]; exact q1
                have q4 : (g : Int).tmod 2 = (r : Int) := by rw [Int.tmod_eq_emod_of_nonneg (by omega)]; exact q2
                have j1 : IntKind.i64.wrap (2 * (y : Int)) = ((2 * y : Nat) : Int) := (IntWalk.i64_in _ (by omega)).trans (by omega)
                obtain ⟨z, hz⟩ : ∃ z, 2 * y = z := ⟨_, rfl⟩
                rw [hz] at j1
                obtain ⟨z1, hz1⟩ : ∃ z1, z + 1 = z1 := ⟨_, rfl⟩
                have j2 : IntKind.i64.wrap ((z : Int) + 1) = (z1 : Int) := (IntWalk.i64_in _ (by omega)).trans (by omega)
                obtain ⟨x, hxx⟩ : ∃ x, z1 - r = x := ⟨_, rfl⟩
                have j3 : IntKind.i64.wrap ((z1 : Int) - (r : Int)) = (x : Int) := (IntWalk.i64_in _ (by omega)).trans (by omega)
                have HSU := Lib.hid (show (dcL M m').take (g + 1) = (dcL M m').take g ++ [(x : Int)] by
                  rw [dcL_succ hgf, hp, hr, fz_at hgy]
                  congr 2
                  omega)
                have pI : (p : Int) < (lm : Int) := by omega
                clear he hg3 hrd hgy hlm hp hr hz hz1 hxx hM3
                go_wp2_with (at_builtin; refine wpList_push_at _ rfl _ _ 36 2 rfl Try.underlying36 (.int .i64 0) 8 Try.info2 rfl w.heap.size _ _ _ rfl (S7.out.own (i := 4) rfl) _ rfl rfl (by omega) (by omega) hlo ?_)
                intro A8 c8 w8 own7 gr7 hat7
                have own8 : w8.ownsRow w.heap.size 2 1 (.slice A8 (g + 1) c8) (g + 1) (ints ((dcL M m').take (g + 1))) := by
                  rw [HSU.out]
                  simpa [ints] using own7
                have S8 := Lib.hid (S7.out.push (i := 4) rfl own8 gr7 hat7)
                clear own7 own8 gr7 hat7
                go_wp2
                go_roundw
                case rel => exact ⟨g + 1, _, _, by omega, rfl, by go_num, S8.out⟩
                case measure => simp [intOf]; omega
              · obtain rfl : g = M := by omega
                have gI : ¬ (g : Int) < (g : Int) := by omega
                go_wp2_with fail
                refine (sFlags_bel _ hpos (cell_be HC0.out S6.out.below)).mono ?_
                rintro e wa ⟨rfl, bel⟩
                have st7 := S6.out.go bel
                rw [List.take_of_length_le (l := dcL g m) (by rw [dcL_len]; exact Nat.le_refl _)] at st7
                have hlo := st7.lo
                have p1 := (st7.blk (i := 2) rfl).cell (i := 0) rfl
                have S7 := Lib.hid st7
                have HSU := Lib.hid (dcS_succ (M := g) HM2.out)
                clear bel hbc S6 st7
                go_wp2_with (at_builtin; refine wpList_push_at _ rfl _ _ 22 36 rfl Try.underlying22 (.slice none 0 0) 24 Try.infoS rfl w.heap.size _ _ _ rfl (S7.out.rows (i := 3) rfl) _ rfl rfl (by omega) (by omega) hlo ?_)
                intro A8 c8 w8 own8 gr8 hat8
                have st8 := (S7.out.rowPush (i := 3) (j := 4) rfl rfl (dcL_len _ _) (by decide) (by decide) own8 gr8 hat8).take 4
                have q1 := (st8.blk (i := 2) rfl).cell (i := 0) rfl
                have f1 := (st8.blk (i := 2) rfl).free 0
                have st9 := st8.blkSet (i := 2) rfl 0 (.slice A8 (k + 1) c8)
                have S9 := Lib.hid (show St w (w8.setCell ⟨gO, 0, none⟩ (.slice A8 (k + 1) c8)) [.blk w.heap.size #[.slice (some ⟨b, o, none⟩) N c] 27, .blk (w.heap.size + 1) #[.slice none 0 0] 27, .blk gO #[.slice A8 (k + 1) c8] 27, .rows 2 36 A8 (k + 1) c8 (vals ++ [.slice A7 g c7]) ((dcS g xss).take (k + 1))] from by
                  rw [HSU.out]
                  exact st9)
                clear own8 gr8 hat8 st8 st9 p1
                go_wp2
                go_roundw
                case rel => exact ⟨k + 1, _, _, _, by omega, by go_num, S9.out⟩
                case measure => simp [intOf]; omega
          · obtain rfl : k = N := by omega
            have kI : ¬ (k : Int) < (k : Int) := by omega
            rw [List.take_of_length_le (l := dcS M xss) (by rw [dcS_len, HX.out]; exact Nat.le_refl _)] at st
            have z0 := (st.blk (i := 1) rfl).cell (i := 0) rfl
            have f0 := (st.blk (i := 1) rfl).free 0
            have o0 := (st.blk (i := 2) rfl).cell (i := 0) rfl
            have S5 := Lib.hid st
            clear st
            go_wp2
            have st4 := S5.out.blkSet (i := 1) rfl 0 (.slice AR k cR)
            have y0 := (st4.blk (i := 1) rfl).cell (i := 0) rfl
            refine bodyPost_ret (v := .tuple #[.agg #[.slice AR k cR], .int .i64 0]) (by simp [results, Try.results44, go_sem, y0]) rfl ⟨AR, cR, by rw [HLL.out], ?_, st4.below⟩
            rw [HLL.out]
            exact st4.sep.ownSS (i := 3) rfl

end Go.Proofs.Ytmgoaabeopnopaa
