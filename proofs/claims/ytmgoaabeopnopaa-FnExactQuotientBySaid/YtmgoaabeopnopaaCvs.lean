/- spec.l06Map as a search for a covering. -/
import Derived.Test.YtmgoaabeopnopaaL19
import Derived.Test.YtmgoaabeopnopaaCvi
namespace Go.Proofs.Ytmgoaabeopnopaa
open Go.RowKit

section
variable {xss yss : List (List Int)} {n nk : Nat}
/-- What the lists of images and of reached flags hold on the way. -/
structure CSInv (n nk : Nat) (xss yss : List (List Int)) (q i j : Nat) (O D : List Int) : Prop where
  hI : CInv n nk xss yss q O i j D
  ps : Passed n O
  on : ∀ y v : Nat, D[y]? = some (v : Int) → (y : Int) ∈ O
  off : ∀ y : Nat, (y : Int) ∈ O → ∃ v : Nat, v < nk ∧ D[y]? = some (v : Int)
  z : (0 : Int) ∈ O
theorem CInv.grow {q i j : Nat} {O D : List Int} (h : CInv n nk xss yss q O i j D) (hi : i < O.length) (r : Int) : CInv n nk xss yss q (O ++ [r]) i j D :=
  ⟨h.len, h.val, h.hd, h.forced, fun a x b g h' hab hx hg hh => h.done a x b g h' hab (by
    rw [List.getElem?_append_left (by omega)] at hx
    exact hx) hg hh⟩
theorem csinv_start {q : Nat} (hn : 0 < n) (hq : q < nk) : CSInv n nk xss yss q 0 0 [0] ((fillL n).set 0 (q : Int)) := by
  have h0 := cinv_start (xss := xss) (yss := yss) (O := [0]) hn hq
  refine ⟨h0, ⟨fun x hx => by simp at hx; subst hx; omega, by simp⟩, fun y v hy => ?_, fun y hy => ?_, by simp⟩
  · by_cases e : 0 = y
    · subst e; simp
    · rw [List.getElem?_set_ne e] at hy
      obtain ⟨h1, h2⟩ := List.getElem?_eq_some_iff.1 hy
      simp [fillL] at h2
      try omega
  · simp at hy
    subst hy
    exact ⟨q, hq, by simp [fillL, hn]⟩
theorem csinv_at {q i j p : Nat} {O D : List Int} (h : CSInv n nk xss yss q i j O D) (hx : O[i]? = some (p : Int)) : ∃ v : Nat, v < nk ∧ D[p]? = some (v : Int) := h.off p (List.mem_of_getElem? hx)
theorem csinv_new {p q i j r m v : Nat} {O D g h : List Int} (hI : CSInv n nk xss yss q i j O D) (hx : O[i]? = some (p : Int)) (hg : xss[j]? = some g) (hh : yss[j]? = some h) (hpn : p < n) (hr : fz g p = (r : Int)) (hrn : r < n) (hv : D[p]? = some (v : Int)) (hm : fz h v = (m : Int)) (hmn : m < nk) (hD : D[r]? = some (-1)) :
    CSInv n nk xss yss q i (j + 1) (O ++ [(r : Int)]) (D.set r (m : Int)) := by
  have hi := (List.getElem?_eq_some_iff.1 hx).1
  have hno : ¬ (r : Int) ∈ O := fun h1 => by
    obtain ⟨u, _, hu⟩ := hI.off r h1
    rw [hD] at hu; injection hu with hu; omega
  refine ⟨(cinv_new hI.hI hx hg hh hpn hr hrn hv hm hmn hD).grow hi _, by simpa using ps_push (R := []) (by simpa using hI.ps) (by omega) (by omega) (by simpa using hno), fun y w hw => ?_, fun y hy => ?_, List.mem_append.2 (.inl hI.z)⟩
  · by_cases e : r = y
    · subst e; simp
    · rw [List.getElem?_set_ne e] at hw
      exact List.mem_append.2 (.inl (hI.on y w hw))
  · by_cases e : r = y
    · subst e
      exact ⟨m, hmn, List.getElem?_set_self (by rw [hI.hI.len]; exact hrn)⟩
    · rw [List.getElem?_set_ne e]
      rcases List.mem_append.1 hy with h1 | h1
      · exact hI.off y h1
      · simp at h1; omega
theorem csinv_same {p q i j r m v : Nat} {O D g h : List Int} (hI : CSInv n nk xss yss q i j O D) (hx : O[i]? = some (p : Int)) (hg : xss[j]? = some g) (hh : yss[j]? = some h) (hr : fz g p = (r : Int)) (hv : D[p]? = some (v : Int)) (hm : fz h v = (m : Int)) (hD : D[r]? = some (m : Int)) :
    CSInv n nk xss yss q i (j + 1) O D := ⟨cinv_same hI.hI hx hg hh hr hv hm hD, hI.ps, hI.on, hI.off, hI.z⟩
theorem csinv_next {q i : Nat} {O D : List Int} (h : CSInv n nk xss yss q i xss.length O D) : CSInv n nk xss yss q (i + 1) 0 O D := ⟨cinv_next h.hI, h.ps, h.on, h.off, h.z⟩
theorem csinv_done {q i : Nat} {O D : List Int} (hs : okSys n xss = true) (hl : xss.length = yss.length) (hn : 0 < n) (hpos : 0 < xss.length) (hall : (orbL xss n ((0 : Nat) : Int)).length = n) (hI : CSInv n nk xss yss q i 0 O D) (hi : O.length ≤ i) : cvL xss yss n nk q = some D := by
  have hcl : Closed xss O := fun g hg x hx => by
    obtain ⟨a, ha, hae⟩ := List.mem_iff_getElem.1 hx
    obtain ⟨b, hb, hbe⟩ := List.mem_iff_getElem.1 hg
    have h1 := (hI.hI.done a x b g yss[b] (.inl (by omega)) (by rw [List.getElem?_eq_getElem ha, hae]) (by rw [List.getElem?_eq_getElem hb, hbe]) (List.getElem?_eq_getElem (by omega))).2.1
    have h2 := hI.ps.1 x hx
    have h3 := sys_img hs hg h2.1 h2.2
    obtain ⟨r, hr⟩ := Int.eq_ofNat_of_zero_le h3.1
    rw [hr] at h1 ⊢
    obtain ⟨v, hv⟩ := fz_nn h1 (by rw [hI.hI.len]; omega)
    exact hI.on r v hv
  refine cinv_done hs hl hn hpos hall (fun y hy => ?_) hI.hI hi
  exact orb_sub (n := n) (q := 0) hcl hI.z _ (mem_all hall (orb_passed hs hn) hy)
end
set_option maxHeartbeats 6400000 in
set_option maxRecDepth 100000 in
theorem sisoC_any {b o c N b1 o1 c1 n nk c0 q : Nat} {A0 : Option Addr} {xss yss : List (List Int)} (w : World) (hx : xss.length = N) (ha : RdSS w (some ⟨b, o, none⟩) xss) (hy : yss.length = N) (hb : RdSS w (some ⟨b1, o1, none⟩) yss) (hN : N ≤ 1048576) (hsys : okSys n xss = true) (hsy : okSys nk yss = true) (h0 : w.cell? ⟨b, o, none⟩ = some (.slice A0 n c0)) (hpos : 0 < N) (hn0 : 0 < n) (hq : q < nk) (hall : (orbL xss n ((0 : Nat) : Int)).length = n) :
    Calls Try.prog 150 #[.agg #[.slice (some ⟨b, o, none⟩) N c], .agg #[.slice (some ⟨b1, o1, none⟩) N c1], .int .i64 q] w (IsoRetB w n (cvL xss yss n nk q)) := by
  have hn : 0 < n := hn0
  have HX := Lib.hid hx
  have HY := Lib.hid hy
  have HA := Lib.hid ha
  have HB := Lib.hid hb
  have HS := Lib.hid hsys
  have HSY := Lib.hid hsy
  have HC0 := Lib.hid h0
  have HALL := Lib.hid hall
  have hn4 := (sys_parts hsys).2.1
  have hn4' : n ≤ 400 := by omega
  have hk4' : nk ≤ 400 := by have := (sys_parts hsy).2.1; omega
  have HXY := Lib.hid (hx.trans hy.symm)
  have HPX := Lib.hid (show 0 < xss.length by omega)
  have R0 := Lib.hid (csinv_start (xss := xss) (yss := yss) hn hq)
  have st0 := (((St.start w).addBlk #[.slice (some ⟨b, o, none⟩) N c] 27).addBlk #[.slice (some ⟨b1, o1, none⟩) N c1] 27).addMade 2
  simp at st0
  have S0 := Lib.hid st0
  clear st0 hx ha hy hb hsys hsy h0 hall
  go_enter Try.func150, Try.ntmps150
  go_wp2
  go_loopw [8, 9] (fun v i wr => ∃ k : Nat, k ≤ n ∧ i = .int .i64 k ∧ ∃ A' c', v = .slice A' k c' ∧ St w wr (hs3Ps w.heap.size (.slice (some ⟨b, o, none⟩) N c) (w.heap.size + 1) (.slice (some ⟨b1, o1, none⟩) N c1) A' k c' (fillL k))) (fun _ i _ => n - (intOf i).toNat)
  case atStart => exact ⟨0, Nat.zero_le _, rfl, _, _, rfl, S0.out⟩
  case round =>
    obtain ⟨k, hk, rfl, A', c', rfl, st⟩ := hrel
    have S := Lib.hid st
    have hbc := (st.blk (i := 0) rfl).cell (i := 0) rfl
    clear st
    go_wp2_with fail
    refine (sFlags_bel wr hpos (cell_be HC0.out S.out.below)).mono ?_
    rintro e w1 ⟨rfl, bel⟩
    have S1 := Lib.hid (S.out.go bel)
    clear bel hbc
    by_cases hlt : k < n
    · have hlo := S1.out.lo
      go_wp2_with (at_builtin; refine wpList_push_at _ rfl _ _ 36 2 rfl Try.underlying36 (.int .i64 0) 8 Try.info2 rfl w.heap.size _ _ _ rfl (S1.out.own (i := 2) rfl) _ rfl rfl (by omega) (by omega) (by omega) ?_)
      intro A3 c3 w3 own3 gr3 hat3
      have S3 := Lib.hid (S1.out.push (i := 2) rfl own3 gr3 hat3)
      clear own3 gr3 hat3
      go_wp2
      go_roundw
      case rel => exact ⟨k + 1, by omega, by go_num, A3, c3, rfl, by simpa [fill_succ, ints, hs3Ps] using S3.out⟩
      case measure => simp [intOf]; omega
    · obtain rfl : k = n := by omega
      obtain ⟨g, rfl⟩ := own_shape (S1.out.own (i := 2) rfl) (by omega)
      have hcell := own_cell (S1.out.own (i := 2) rfl) (show (ints (fillL k))[0]? = some (.int .i64 (-1)) by simp [fillL, hn])
      have hfrz := (S1.out.own (i := 2) rfl).frozenAt 0
      have S2 := Lib.hid ((hm3_set S1.out (q : Int)).addLit1 (.int .i64 0) 2)
      go_wp2
      clear hk hlt hcell hfrz S S1
      have S3 := Lib.hid (show St w _ (hsPs w.heap.size (.slice (some ⟨b, o, none⟩) N c) (w.heap.size + 1) (.slice (some ⟨b1, o1, none⟩) N c1) g k c' ((fillL k).set 0 (q : Int)) (some ⟨w1.heap.size, 0, none⟩) 1 1 [0]) from by
        have h := S2.out
        rw [show (w1.setCell ⟨g, 0, none⟩ (.int .i64 (q : Int))).heap.size = w1.heap.size by simp] at h
        exact h)
      clear S2
      go_loopw [10, 11] (fun v u wr => ∃ (i m c2 : Nat) (A2 : Option Addr) (D O : List Int), u = .int .i64 i ∧ v = .slice A2 m c2 ∧ i ≤ m ∧ St w wr (hsPs w.heap.size (.slice (some ⟨b, o, none⟩) N c) (w.heap.size + 1) (.slice (some ⟨b1, o1, none⟩) N c1) g k c' D A2 m c2 O) ∧ CSInv k nk xss yss q i 0 O D) (fun _ u _ => k - (intOf u).toNat)
      case atStart => exact ⟨0, 1, 1, _, _, _, rfl, rfl, by omega, S3.out, R0.out⟩
      case round =>
        obtain ⟨i, m, c2, A2, D, O, rfl, rfl, him, st, tt⟩ := hrel
        have hlen := hs_len st
        have hlen2 := passed_len tt.ps
        have S := Lib.hid st
        have T := Lib.hid tt
        have hbc := (st.blk (i := 0) rfl).cell (i := 0) rfl
        clear st tt S3 R0
        by_cases hlt : i < m
        · obtain ⟨x, hxx⟩ : ∃ x, O[i]? = some x := ⟨_, List.getElem?_eq_getElem (by omega)⟩
          have hxr := T.out.ps.1 x (List.mem_of_getElem? hxx)
          obtain ⟨p, rfl⟩ := Int.eq_ofNat_of_zero_le hxr.1
          have hpn : p < k := by omega
          obtain ⟨gO, rfl⟩ := own_shape (S.out.own (i := 3) rfl) (show 0 < m by omega)
          have hcx := own_cell (S.out.own (i := 3) rfl) (show (ints O)[i]? = some (.int .i64 p) by rw [ints, List.getElem?_map, hxx]; rfl)
          have HXX := Lib.hid hxx
          clear hxx hxr
          go_wp2
          clear hcx hbc
          go_loopw [10, 13] (fun v u wi => ∃ (j m2 c3 : Nat) (A3 : Option Addr) (D O : List Int), u = .int .i64 j ∧ v = .slice A3 m2 c3 ∧ j ≤ N ∧ i < m2 ∧ O[i]? = some (p : Int) ∧ St w wi (hsPs w.heap.size (.slice (some ⟨b, o, none⟩) N c) (w.heap.size + 1) (.slice (some ⟨b1, o1, none⟩) N c1) g k c' D A3 m2 c3 O) ∧ CSInv k nk xss yss q i j O D) (fun _ u _ => N - (intOf u).toNat)
          case atStart => exact ⟨0, m, c2, _, D, O, rfl, rfl, Nat.zero_le _, hlt, HXX.out, S.out, T.out⟩
          case round =>
            obtain ⟨j, m2, c3, A3, D2, O2, rfl, rfl, hj, him2, hxx2, st2, ri2⟩ := hrel
            have hl2 := hs_len st2
            have hl3 := passed_len ri2.ps
            have S2 := Lib.hid st2
            have R2 := Lib.hid ri2
            have HP := Lib.hid hxx2
            have hbm := (st2.blk (i := 0) rfl).cell (i := 0) rfl
            clear st2 ri2 S T hxx2
            by_cases hjl : j < N
            · obtain ⟨b3, o3, A4, c4, gg, he, hg, hc, hrd, hms⟩ := (HA.out.keep S2.out.below).row (k := j) (by rw [HX.out]; exact hjl)
              obtain ⟨rfl, rfl⟩ : b = b3 ∧ o = o3 := by simpa using he
              have hlg := sys_len HS.out hg
              obtain ⟨l, hl⟩ : ∃ l, gg.length = l := ⟨_, rfl⟩
              rw [hl] at hc hms hlg
              obtain ⟨b4, o4, y, rfl, hgy, hcy⟩ := hrd.int (k := p) (by omega)
              obtain ⟨r, rfl, hr0⟩ := sys_at HS.out hg hgy
              have hrn : r < k := by omega
              obtain ⟨v, hvn, hDv⟩ := csinv_at R2.out HP.out
              have hcv := own_cell (S2.out.own (i := 2) rfl) (show (ints D2)[p]? = some (.int .i64 v) by simp [hDv])
              obtain ⟨gP, rfl⟩ := own_shape (S2.out.own (i := 3) rfl) (show 0 < m2 by omega)
              have hcp := own_cell (S2.out.own (i := 3) rfl) (show (ints O2)[i]? = some (.int .i64 p) by rw [ints, List.getElem?_map, HP.out]; rfl)
              obtain ⟨b5, o5, A5, c5, hh, he2, hgh, hch, hrh, hmh⟩ := (HB.out.keep S2.out.below).row (k := j) (by rw [HY.out]; exact hjl)
              obtain ⟨rfl, rfl⟩ : b1 = b5 ∧ o1 = o5 := by simpa using he2
              have hlh := sys_len HSY.out hgh
              obtain ⟨l2, hl2⟩ : ∃ l, hh.length = l := ⟨_, rfl⟩
              rw [hl2] at hch hmh hlh
              obtain ⟨b6, o6, y2, rfl, hhy, hcm⟩ := hrh.int (k := v) (by omega)
              obtain ⟨mm, rfl, hm0⟩ := sys_at HSY.out hgh hhy
              have hmn : mm < nk := by omega
              have hbk := (S2.out.blk (i := 1) rfl).cell (i := 0) rfl
              have FR := Lib.hid (show fz gg p = (r : Int) from fz_at hgy)
              have FM := Lib.hid (show fz hh v = (mm : Int) from fz_at hhy)
              have HG := Lib.hid hg
              have HH := Lib.hid hgh
              have DV := Lib.hid hDv
              clear he he2 hgy hhy hrd hrh hg hgh hDv
              rcases R2.out.hI.val r hrn with hDr | ⟨u, hun, hDr⟩
              · have hcr := own_cell (S2.out.own (i := 2) rfl) (show (ints D2)[r]? = some (.int .i64 (-1)) by simp [hDr])
                have hfr := (S2.out.own (i := 2) rfl).frozenAt r
                have R3 := Lib.hid (csinv_new R2.out HP.out HG.out HH.out hpn FR.out hrn DV.out FM.out hmn hDr)
                clear hDr
                go_wp2
                go_quiet (fail)
                have S3 := Lib.hid (S2.out.go (below_drewN (Below.refl _ _) nq))
                have S5 := Lib.hid (hs_set S3.out r (mm : Int))
                have hws := S5.out.lo
                go_wp2_with (at_builtin; refine wpList_push_at _ rfl _ _ 36 2 rfl Try.underlying36 (.int .i64 0) 8 Try.info2 rfl w.heap.size _ _ _ rfl (S5.out.own (i := 3) rfl) _ rfl ?hx (by omega) (by omega) hws ?_)
                case hx => simp [Act.eval]
                intro A7 c7 w7 own7 gr7 hat7
                have S7 := Lib.hid (show St w w7 (hsPs w.heap.size (.slice (some ⟨b, o, none⟩) N c) (w.heap.size + 1) (.slice (some ⟨b1, o1, none⟩) N c1) g k c' (D2.set r (mm : Int)) A7 (m2 + 1) c7 (O2 ++ [(r : Int)])) from by
                  have h := S5.out.push (i := 3) rfl own7 gr7 (by simpa using hat7)
                  simpa [ints, hsPs] using h)
                clear own7 gr7 hat7
                have hcr2 := own_cell (S7.out.own (i := 2) rfl) (show (ints (D2.set r (mm : Int)))[r]? = some (.int .i64 mm) by simp [R2.out.hI.len, hrn])
                go_wp2
                go_roundw
                case rel => exact ⟨j + 1, m2 + 1, c7, A7, _, O2 ++ [(r : Int)], by go_num, rfl, by omega, by omega, by rw [List.getElem?_append_left (by omega)]; exact HP.out, S7.out, R3.out⟩
                case measure => simp [intOf]; omega
              · have hcr := own_cell (S2.out.own (i := 2) rfl) (show (ints D2)[r]? = some (.int .i64 u) by simp [hDr])
                by_cases hum : u = mm
                · subst hum
                  have R3 := Lib.hid (csinv_same R2.out HP.out HG.out HH.out FR.out DV.out FM.out hDr)
                  clear hDr
                  go_wp2
                  go_quiet (fail)
                  have S3 := Lib.hid (S2.out.go (below_drewN (Below.refl _ _) nq))
                  go_wp2
                  go_roundw
                  case rel => exact ⟨j + 1, m2, c3, _, _, O2, by go_num, rfl, by omega, him2, HP.out, S3.out, R3.out⟩
                  case measure => simp [intOf]; omega
                · have NO := Lib.hid (cinv_fail R2.out.hI HG.out HH.out hpn FR.out DV.out FM.out hDr hum)
                  clear hDr
                  go_wp2
                  go_quiet (fail)
                  have S3 := Lib.hid (S2.out.go (below_drewN (Below.refl _ _) nq))
                  go_wp2
                  go_ret2
                  exact ⟨S3.out.below, .inl ⟨NO.out, rfl⟩⟩
            · have h := R2.out
              rw [show j = xss.length by rw [HX.out]; omega] at h
              have R3 := Lib.hid (csinv_next h)
              clear h
              go_wp2
              go_roundw
              case rel => exact ⟨i + 1, m2, c3, A3, D2, O2, by go_num, rfl, by omega, S2.out, R3.out⟩
              case measure => simp [intOf]; omega
        · have hD := csinv_done HS.out HXY.out hn HPX.out HALL.out T.out (by omega)
          have HD := Lib.hid hD
          clear hD
          go_wp2
          go_ret2
          exact ⟨S.out.below, .inr ⟨D, g, c', HD.out, rfl, S.out.own (i := 2) rfl⟩⟩
end Go.Proofs.Ytmgoaabeopnopaa
