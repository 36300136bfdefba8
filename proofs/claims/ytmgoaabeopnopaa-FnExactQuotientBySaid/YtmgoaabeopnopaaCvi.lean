/- impl.isomorphismTo as a search for a covering: the second maniplex may have another number of flags. -/
import Derived.Test.YtmgoaabeopnopaaL19
import Derived.Test.YtmgoaabeopnopaaCv
import Derived.Test.YtmgoaabeopnopaaRep
import Derived.Test.YtmgoaabeopnopaaL16
import Derived.Test.YtmgoaabeopnopaaL9
import Derived.WalkMore
namespace Go.Proofs.Ytmgoaabeopnopaa
open Go.RowKit

set_option maxHeartbeats 6400000 in
set_option maxRecDepth 100000 in
theorem iisoC_any {b o c N b1 o1 c1 n nk c0 q : Nat} {A0 : Option Addr} {xss yss : List (List Int)} (w : World) (hx : xss.length = N) (ha : RdSS w (some ⟨b, o, none⟩) xss) (hy : yss.length = N) (hb : RdSS w (some ⟨b1, o1, none⟩) yss) (hN : N ≤ 1048576) (hsys : okSys n xss = true) (hsy : okSys nk yss = true) (h0 : w.cell? ⟨b, o, none⟩ = some (.slice A0 n c0)) (hpos : 0 < N) (hn0 : 0 < n) (hq : q < nk) (hall : (orbL xss n ((0 : Nat) : Int)).length = n) :
    Calls Try.prog 125 #[.agg #[.slice (some ⟨b, o, none⟩) N c], .agg #[.slice (some ⟨b1, o1, none⟩) N c1], .int .i64 q] w (IsoRet w n (cvL xss yss n nk q)) := by
  have hn : 0 < n := hn0
  have HX := Lib.hid hx
  have HY := Lib.hid hy
  have HA := Lib.hid ha
  have HB := Lib.hid hb
  have HS := Lib.hid hsys
  have HSY := Lib.hid hsy
  have HC0 := Lib.hid h0
  have HALL := Lib.hid hall
  have hn4 := (sys_parts hsys).2.1
  have hn4' : n ≤ 400 := by omega
  have hk4' : nk ≤ 400 := by have := (sys_parts hsy).2.1; omega
  have HXY := Lib.hid (hx.trans hy.symm)
  have HPX := Lib.hid (show 0 < xss.length by omega)
  obtain ⟨j0, hj0, ho⟩ := oinv_orb hsys hn
  have HO := Lib.hid ho
  have HIN := Lib.hid (show ∀ y : Nat, y < n → (y : Int) ∈ orbL xss n ((0 : Nat) : Int) from fun y hy => mem_all hall (orb_passed hsys hn) hy)
  have R0 := Lib.hid (cinv_start (xss := xss) (yss := yss) (O := orbL xss n ((0 : Nat) : Int)) hn hq)
  have st0 := (((St.start w).addBlk #[.slice (some ⟨b, o, none⟩) N c] 27).addBlk #[.slice (some ⟨b1, o1, none⟩) N c1] 27).addLit1 (.int .i64 (-1)) 2
  simp at st0
  have S0 := Lib.hid st0
  have hbc := (st0.blk (i := 0) rfl).cell (i := 0) rfl
  clear st0 hx ha hy hb hsys hsy h0 hall ho hj0
  go_enter Try.func125, Try.ntmps125
  go_wp2
  go_step3
  go_wp2_with fail
  refine (flags_bel _ hpos (cell_be HC0.out S0.out.below)).mono ?_
  rintro e w1 ⟨rfl, bel⟩
  have st1 := S0.out.go bel
  have S1 := Lib.hid st1
  have hlit := own_cell (st1.own (i := 2) rfl) (k := 0) rfl
  clear bel st1 hbc
  go_wp2_with fail
  refine (repeat_any (m := n) _ hlit (by omega) (by omega)).mono ?_
  rintro e w2 ⟨A2, c2, rfl, own, bel⟩
  rw [List.length_replicate] at own
  obtain ⟨g, rfl⟩ := own_shape own hn
  have st2 := ((S1.out.addOwn bel own (Nat.le_refl _)).drop 2)
  have S2 := Lib.hid st2
  have hfr := (st2.own (i := 2) rfl).frozenAt 0
  have hcz := own_cell (st2.own (i := 2) rfl) (show (ints (List.replicate n (-1)))[0]? = some (.int .i64 (-1)) by simp [hn])
  rw [List.length_replicate]
  clear own bel st2 hlit S1
  have S3 := Lib.hid (hm3_set S2.out (q : Int))
  have hb3 := (S3.out.blk (i := 0) rfl).cell (i := 0) rfl
  go_wp2
  go_step3
  go_wp2_with fail
  refine (flagsFrom_any _ HX.out (HA.out.keep S3.out.below) hN HS.out hpos hn).mono ?_
  rintro e w3 ⟨A3, c3, rfl, own, bel⟩
  rw [HALL.out] at own ⊢
  obtain ⟨g3, rfl⟩ := own_shape own hn
  have S4 := Lib.hid (show St w w3 (hmPs w.heap.size (.slice (some ⟨b, o, none⟩) N c) (w.heap.size + 1) (.slice (some ⟨b1, o1, none⟩) N c1) g n c2 ((List.replicate n (-1)).set 0 (q : Int)) (some ⟨g3, 0, none⟩) c3 (orbL xss n ((0 : Nat) : Int))) from S3.out.addOwn bel own (Nat.le_refl _))
  clear own bel S2 S3 hb3
  go_wp2
  clear hfr hcz
  go_loopw [7, 24] (fun im i wr => ∃ (i' : Nat) (D : List Int), im = .slice (some ⟨g, 0, none⟩) n c2 ∧ i' ≤ n ∧ i = .int .i64 i' ∧ St w wr (hmPs w.heap.size (.slice (some ⟨b, o, none⟩) N c) (w.heap.size + 1) (.slice (some ⟨b1, o1, none⟩) N c1) g n c2 D (some ⟨g3, 0, none⟩) c3 (orbL xss n ((0 : Nat) : Int))) ∧ CInv n nk xss yss q (orbL xss n ((0 : Nat) : Int)) i' 0 D) (fun _ i _ => n - (intOf i).toNat)
  case atStart => exact ⟨0, _, rfl, Nat.zero_le _, rfl, S4.out, R0.out⟩
  case round =>
    obtain ⟨i, D, rfl, hi, rfl, st, ri⟩ := hrel
    have S := Lib.hid st
    have RI := Lib.hid ri
    have hbc := (st.blk (i := 0) rfl).cell (i := 0) rfl
    clear st ri S4 R0
    by_cases hlt : i < n
    · obtain ⟨p, hp, hpn⟩ := orb_at HS.out hn (show i < (orbL xss n ((0 : Nat) : Int)).length by rw [HALL.out]; omega)
      have hcx := own_cell (S.out.own (i := 3) rfl) (show (ints (orbL xss n ((0 : Nat) : Int)))[i]? = some (.int .i64 p) by rw [ints, List.getElem?_map, hp]; rfl)
      have HP := Lib.hid hp
      clear hp
      go_wp2
      clear hcx hbc
      go_loopw [7, 31] (fun im v wi => ∃ (j : Nat) (D : List Int), im = .slice (some ⟨g, 0, none⟩) n c2 ∧ j ≤ N ∧ v = .int .i64 j ∧ St w wi (hmPs w.heap.size (.slice (some ⟨b, o, none⟩) N c) (w.heap.size + 1) (.slice (some ⟨b1, o1, none⟩) N c1) g n c2 D (some ⟨g3, 0, none⟩) c3 (orbL xss n ((0 : Nat) : Int))) ∧ CInv n nk xss yss q (orbL xss n ((0 : Nat) : Int)) i j D) (fun _ v _ => N - (intOf v).toNat)
      case atStart => exact ⟨0, D, rfl, Nat.zero_le _, rfl, S.out, RI.out⟩
      case round =>
        obtain ⟨j, D2, rfl, hj, rfl, st2, ri2⟩ := hrel
        have S2 := Lib.hid st2
        have R2 := Lib.hid ri2
        clear st2 ri2 S RI
        by_cases hjl : j < N
        · obtain ⟨b3, o3, A4, c4, gg, he, hg, hc, hrd, hms⟩ := (HA.out.keep S2.out.below).row (k := j) (by rw [HX.out]; exact hjl)
          obtain ⟨rfl, rfl⟩ : b = b3 ∧ o = o3 := by simpa using he
          have hlg := sys_len HS.out hg
          obtain ⟨l, hl⟩ : ∃ l, gg.length = l := ⟨_, rfl⟩
          rw [hl] at hc hms hlg
          obtain ⟨b4, o4, y, rfl, hgy, hcy⟩ := hrd.int (k := p) (by omega)
          obtain ⟨r, rfl, hr0⟩ := sys_at HS.out hg hgy
          have hrn : r < n := by omega
          obtain ⟨v, hvn, hDv⟩ := cinv_at HS.out HXY.out HO.out HIN.out R2.out HP.out hpn
          have hcv := own_cell (S2.out.own (i := 2) rfl) (show (ints D2)[p]? = some (.int .i64 v) by simp [hDv])
          obtain ⟨b5, o5, A5, c5, hh, he2, hgh, hch, hrh, hmh⟩ := (HB.out.keep S2.out.below).row (k := j) (by rw [HY.out]; exact hjl)
          obtain ⟨rfl, rfl⟩ : b1 = b5 ∧ o1 = o5 := by simpa using he2
          have hlh := sys_len HSY.out hgh
          obtain ⟨l2, hl2⟩ : ∃ l, hh.length = l := ⟨_, rfl⟩
          rw [hl2] at hch hmh hlh
          obtain ⟨b6, o6, y2, rfl, hhy, hcm⟩ := hrh.int (k := v) (by omega)
          obtain ⟨m, rfl, hm0⟩ := sys_at HSY.out hgh hhy
          have hmn : m < nk := by omega
          have hbk := (S2.out.blk (i := 1) rfl).cell (i := 0) rfl
          have FR := Lib.hid (show fz gg p = (r : Int) from fz_at hgy)
          have FM := Lib.hid (show fz hh v = (m : Int) from fz_at hhy)
          have HG := Lib.hid hg
          have HH := Lib.hid hgh
          have DV := Lib.hid hDv
          clear he he2 hgy hhy hrd hrh hg hgh hDv
          rcases R2.out.val r hrn with hDr | ⟨u, hun, hDr⟩
          · have hcr := own_cell (S2.out.own (i := 2) rfl) (show (ints D2)[r]? = some (.int .i64 (-1)) by simp [hDr])
            have hfr := (S2.out.own (i := 2) rfl).frozenAt r
            have R3 := Lib.hid (cinv_new R2.out HP.out HG.out HH.out hpn FR.out hrn DV.out FM.out hmn hDr)
            clear hDr
            go_wp2
            go_quiet (fail)
            have S3 := Lib.hid (S2.out.go (below_drewN (Below.refl _ _) nq))
            have S5 := Lib.hid (hm_set S3.out r (m : Int))
            have hcr2 := own_cell (S5.out.own (i := 2) rfl) (show (ints (D2.set r (m : Int)))[r]? = some (.int .i64 m) by
              have := (List.getElem?_eq_some_iff.1 (show (D2.set r (m : Int))[r]? = some (m : Int) from List.getElem?_set_self (by rw [R2.out.len]; exact hrn)))
              simp [R2.out.len, hrn])
            go_wp2
            go_roundw
            case rel => exact ⟨j + 1, _, rfl, by omega, by go_num, S5.out, R3.out⟩
            case measure => simp [intOf]; omega
          · have hcr := own_cell (S2.out.own (i := 2) rfl) (show (ints D2)[r]? = some (.int .i64 u) by simp [hDr])
            by_cases hum : u = m
            · subst hum
              have R3 := Lib.hid (cinv_same R2.out HP.out HG.out HH.out FR.out DV.out FM.out hDr)
              clear hDr
              go_wp2
              go_quiet (fail)
              have S3 := Lib.hid (S2.out.go (below_drewN (Below.refl _ _) nq))
              go_wp2
              go_roundw
              case rel => exact ⟨j + 1, _, rfl, by omega, by go_num, S3.out, R3.out⟩
              case measure => simp [intOf]; omega
            · have NO := Lib.hid (cinv_fail R2.out HG.out HH.out hpn FR.out DV.out FM.out hDr hum)
              clear hDr
              go_wp2
              go_quiet (fail)
              have S3 := Lib.hid (S2.out.go (below_drewN (Below.refl _ _) nq))
              go_wp2
              try rw [Exit.noGoto_ret]
              go_ret
              exact ⟨S3.out.below, .inl ⟨NO.out, rfl⟩⟩
        · have h := R2.out
          rw [show j = xss.length by rw [HX.out]; omega] at h
          have R3 := Lib.hid (cinv_next h)
          clear h
          go_wp2
          go_roundw
          case rel => exact ⟨i + 1, D2, rfl, by omega, by go_num, S2.out, R3.out⟩
          case measure => simp [intOf]; omega
    · have hD := cinv_done HS.out HXY.out hn HPX.out HALL.out HIN.out RI.out (by rw [HALL.out]; omega)
      have HD := Lib.hid hD
      clear hD
      go_wp2
      try rw [Exit.noGoto_ret]
      go_ret
      exact ⟨S.out.below, .inr ⟨D, g, c2, HD.out, rfl, S.out.own (i := 2) rfl⟩⟩
end Go.Proofs.Ytmgoaabeopnopaa
