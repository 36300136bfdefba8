import Derived.Test.YtjkddoiacifhpaaDst
namespace Go.Proofs.Ytjkddoiacifhpaa
open Go.RowKit

theorem bx_rd {w wr : World} {v : Value} {T : TypeId} {A : Option Addr} {xss : List (List Int)} (h : Bx w wr v T) (ha : RdSS w A xss) : RdSS wr A xss := ha.keep h.below
theorem fill_succ (k : Nat) : fillL (k + 1) = fillL k ++ [-1] := by unfold fillL; rw [List.replicate_succ']
theorem dys_start {w wr : World} {v : Value} {T : TypeId} {g cg n p : Nat} (bx : Bx w wr v T) (own : wr.ownsRow (w.heap.size + 1) 2 1 (.slice (some ⟨g, 0, none⟩) n cg) n (ints (fillL n))) :
    DyS w wr.heap.size ((wr.setCell ⟨g, p, none⟩ (.int .i64 0)).alloc (.cells #[.int .i64 p] 2)) v T g cg n (some ⟨wr.heap.size, 0, none⟩) 1 1 ((List.replicate n (-1)).set p 0) [(p : Int)] := by
  have hst := own.stored p (.int .i64 0)
  have hlo := (own.lt g rfl).1
  have h2 := World.ownsRow_lit (base := wr.heap.size) (e := 2) (size := 1) (wr.setCell ⟨g, p, none⟩ (.int .i64 0)) #[.int .i64 p] 1 (by simp) (by decide) (by simp)
  refine ⟨⟨(bx.bel.setCell (p := ⟨g, p, none⟩) hlo _).alloc (by have := bx.size; simp; omega) _⟩, ?_, by simpa using h2, (own.lt g rfl).2, by simp⟩
  have h1 := hst.1
  rw [ints_set] at h1
  exact h1.alloc _

set_option maxHeartbeats 6400000 in
set_option maxRecDepth 8000 in
theorem sdist_any {b o c N n c0 p : Nat} {A0 : Option Addr} {xss : List (List Int)} (w : World) (hx : xss.length = N) (ha : RdSS w (some ⟨b, o, none⟩) xss) (hN : N ≤ 1048576) (hsys : okSys n xss = true) (h0 : w.cell? ⟨b, o, none⟩ = some (.slice A0 n c0)) (hpos : 0 < N) (hp : p < n) (hall : (orbL xss n p).length = n) :
    Calls Try.prog 145 #[.agg #[.slice (some ⟨b, o, none⟩) N c], .int .i64 p] w (Ret1 w (distL xss n p)) := by
  have HX := Lib.hid hx
  have HA := Lib.hid ha
  have HS := Lib.hid hsys
  have HC0 := Lib.hid h0
  have HALL := Lib.hid hall
  have hn4 := (sys_parts hsys).2.1
  have BX0 := Lib.hid (Bx.start w (.slice (some ⟨b, o, none⟩) N c) 51)
  clear hx ha hsys h0 hall
  go_enter Try.func145, Try.ntmps145
  go_wp2
  go_loopw [5, 6] (fun v i wr => ∃ k : Nat, k ≤ n ∧ i = .int .i64 k ∧ ∃ A' c', v = .slice A' k c' ∧ wr.ownsRow (w.heap.size + 1) 2 1 (.slice A' k c') k (ints (fillL k)) ∧ Bx w wr (.slice (some ⟨b, o, none⟩) N c) 51) (fun _ i _ => n - (intOf i).toNat)
  case atStart => exact ⟨0, Nat.zero_le _, rfl, _, _, rfl, by simpa [fillL] using World.ownsRow_made (base := w.heap.size + 1) (e := 2) (size := 1) (w.alloc (.cells #[.slice (some ⟨b, o, none⟩) N c] 51)) #[] 0 (by simp) (Nat.zero_le _) (by simp), BX0.out.al _⟩
  case round =>
    obtain ⟨k, hk, rfl, A', c', rfl, own, bx⟩ := hrel
    have OWN := Lib.hid own
    have BX := Lib.hid bx
    have HCR := Lib.hid (cell_be HC0.out bx.below)
    have hbc := bx.cell
    clear own bx
    go_wp2_with fail
    refine (sFlags_bel wr hpos HCR.out).mono ?_
    rintro e w1 ⟨rfl, bel⟩
    have OWN1 := Lib.hid (own_below OWN.out bel (Nat.le_refl _))
    have BX1 := Lib.hid (BX.out.go bel)
    have hsz := BX1.out.size
    clear bel hbc
    by_cases hlt : k < n
    · go_wp2_with (at_builtin; refine wpList_push2 _ rfl _ _ 24 2 rfl Try.underlying24 (.int .i64 0) 8 Try.info2 rfl (w.heap.size + 1) _ _ _ rfl OWN1.out _ rfl rfl (by omega) (by omega) (by omega) ?_)
      intro A3 c3 w3 own3 gr3
      have OWN3 := Lib.hid own3
      have BX3 := Lib.hid (show Bx w w3 (.slice (some ⟨b, o, none⟩) N c) 51 from ⟨(BX1.out.bel.alloc (by omega) _).grown gr3 (by simp; omega) fun q hq => (OWN1.out.lt q hq).1⟩)
      clear own3 gr3
      go_wp2
      go_roundw
      case rel => exact ⟨k + 1, by omega, by go_num, A3, c3, rfl, by rw [fill_succ]; simpa using OWN3.out, BX3.out⟩
      case measure => simp [intOf]; omega
    · obtain rfl : k = n := by omega
      obtain ⟨g, rfl⟩ := own_shape OWN1.out (by omega)
      have hcell := own_cell OWN1.out (show (ints (fillL k))[p]? = some (.int .i64 (-1)) by simp [fillL, hp])
      have hfrz := OWN1.out.frozenAt p
      have ST := Lib.hid (dys_start (p := p) BX1.out OWN1.out)
      have TT := Lib.hid (dtop_start (xss := xss) hp)
      go_wp2
      clear hk hlt hsz hcell hfrz OWN BX HCR OWN1 BX1
      obtain ⟨w2, hw2⟩ : ∃ w2 : Nat, w1.heap.size = w2 := ⟨_, rfl⟩
      rw [hw2] at ST ⊢
      clear hw2
      go_loopw [7, 8] (fun v q wr => ∃ (i m c2 : Nat) (A2 : Option Addr) (D O : List Int), q = .int .i64 i ∧ v = .slice A2 m c2 ∧ i ≤ m ∧ DyS w w2 wr (.slice (some ⟨b, o, none⟩) N c) 51 g c' k A2 m c2 D O ∧ DyT xss k p i D O) (fun _ q _ => k - (intOf q).toNat)
      case atStart => exact ⟨0, 1, 1, _, _, _, rfl, rfl, by omega, ST.out, TT.out⟩
      case round =>
        obtain ⟨i, m, c2, A2, D, O, rfl, rfl, him, st, tt⟩ := hrel
        have hlen := st.len
        have hlen2 := passed_len tt.oi.ps
        have S := Lib.hid st
        have T := Lib.hid tt
        clear st tt ST TT
        by_cases hlt : i < m
        · obtain ⟨x, hxx⟩ : ∃ x, O[i]? = some x := ⟨_, List.getElem?_eq_getElem (by omega)⟩
          obtain ⟨d, hm0, hdi⟩ := dtop_in T.out hxx (by omega)
          have M0 := Lib.hid hm0
          clear hm0 hxx
          go_wp2
          go_loopw [7, 9] (fun v q wi => ∃ (j m2 c3 : Nat) (A3 : Option Addr) (D O : List Int), q = .int .i64 j ∧ v = .slice A3 m2 c3 ∧ j ≤ N ∧ DyS w w2 wi (.slice (some ⟨b, o, none⟩) N c) 51 g c' k A3 m2 c3 D O ∧ DyM xss k p i j x d D O) (fun _ q _ => N - (intOf q).toNat)
          case atStart => exact ⟨0, m, c2, A2, D, O, rfl, rfl, Nat.zero_le _, S.out, M0.out⟩
          case round =>
            obtain ⟨j, m2, c3, A3, D2, O2, rfl, rfl, hj, st2, mid⟩ := hrel
            have hl2 := st2.len
            have hl3 := passed_len mid.oi.ps
            have hi2 := (List.getElem?_eq_some_iff.1 mid.hx).1
            have S2 := Lib.hid st2
            have M := Lib.hid mid
            have hbc := st2.bx.cell
            clear st2 mid S M0 T
            by_cases hjl : j < N
            · obtain ⟨b3, o3, A4, c4, gg, he, hg, hc, hrd, hms⟩ := (bx_rd S2.out.bx HA.out).row (k := j) (by rw [HX.out]; exact hjl)
              obtain ⟨rfl, rfl⟩ : b = b3 ∧ o = o3 := by simpa using he
              have hlg := sys_len HS.out hg
              obtain ⟨l, hl⟩ : ∃ l, gg.length = l := ⟨_, rfl⟩
              rw [hl] at hc hms hlg
              have hxr := M.out.oi.ps.1 x (List.mem_of_getElem? M.out.hx)
              obtain ⟨xp, rfl⟩ := Int.eq_ofNat_of_zero_le hxr.1
              obtain ⟨b4, o4, y, rfl, hgy, hcy⟩ := hrd.int (k := xp) (by omega)
              obtain ⟨q, rfl, hq0⟩ := sys_at HS.out hg hgy
              obtain ⟨b5, o5, x5, rfl, hgx5, hcx5⟩ := (own_rd S2.out.rch).int (k := i) hi2
              rw [M.out.hx] at hgx5
              injection hgx5 with hgx5
              subst hgx5
              have hqn : q < k := by omega
              have hxn : xp < k := by omega
              have hD := dinv_in M.out.di (List.mem_of_getElem? M.out.hx)
              obtain ⟨d', hDx, hdd⟩ := hD
              obtain rfl : d' = d := isD_uniq hdd M.out.hd
              have hcx := own_cell S2.out.out (show (ints D2)[xp]? = some (.int .i64 d') by simp [hDx])
              have HG := Lib.hid hg
              have HGY := Lib.hid (show gg.getD ((xp : Int)).toNat 0 = (q : Int) by simp [hgy])
              have hd4 := M.out.oi.idx i _ _ M.out.hx hdd
              clear he hgy hrd hg hxr hdd hDx
              by_cases hin : (q : Int) ∈ O2
              · obtain ⟨e, hDq, _⟩ := dinv_in M.out.di hin
                have hcq := own_cell S2.out.out (show (ints D2)[q]? = some (.int .i64 e) by simp [hDq])
                have M2 := Lib.hid (dmid_old M.out HG.out HGY.out hin)
                clear hDq hin
                go_wp2
                go_quiet (fail)
                have S3 := Lib.hid (S2.out.go (below_drewN (Below.refl _ _) nq))
                go_wp2
                go_roundw
                case rel => exact ⟨j + 1, m2, c3, _, D2, O2, by go_num, rfl, by omega, S3.out, M2.out⟩
                case measure => simp [intOf]; omega
              · have hDq := M.out.di.off q hqn hin
                have hcq := own_cell S2.out.out (show (ints D2)[q]? = some (.int .i64 (-1)) by simp [hDq])
                have M2 := Lib.hid (dmid_new M.out HG.out HGY.out hin hqn)
                have hfr := S2.out.out.frozenAt q
                clear hDq hin
                go_wp2
                go_quiet (fail)
                have S3 := Lib.hid (S2.out.go (below_drewN (Below.refl _ _) nq))
                have OM := Lib.hid (S3.out.mark q (.int .i64 ((d' : Int) + 1)))
                have hws := S3.out.w1s
                have hbc2 : w2 ≤ ((wr.drewN nq).setCell ⟨g, q, none⟩ (.int .i64 ((d' : Int) + 1))).heap.size := by simpa using hws
                go_wp2_with (at_builtin; refine wpList_push2 _ rfl _ _ 24 2 rfl Try.underlying24 (.int .i64 0) 8 Try.info2 rfl w2 _ _ _ rfl OM.out _ rfl ?hx (by omega) (by omega) hbc2 ?_)
                case hx => simp [Act.eval]
                intro A5 c5 w5 own5 gr5
                have S6 := Lib.hid (S3.out.push own5 gr5)
                clear own5 gr5
                go_wp2
                go_roundw
                case rel => exact ⟨j + 1, m2 + 1, c5, A5, _, O2 ++ [(q : Int)], by go_num, rfl, by omega, S6.out, M2.out⟩
                case measure => simp [intOf]; omega
            · have M2 := Lib.hid (dmid_end M.out (by rw [HX.out]; omega))
              go_wp2
              go_roundw
              case rel => exact ⟨i + 1, m2, c3, A3, D2, O2, by go_num, rfl, by omega, S2.out, M2.out⟩
              case measure => simp [intOf]; omega
        · have hD := dtop_end T.out (by omega) HALL.out (orb_passed HS.out hp)
          obtain rfl : D = distL xss k p := hD
          obtain ⟨_, hdl⟩ := hlen
          have HDL := Lib.hid hdl
          clear hdl
          go_wp2
          go_ret
          exact ⟨_, c', by rw [HDL.out]; rfl, by rw [HDL.out]; exact own_base S.out.out (by omega), S.out.bx.below⟩
end Go.Proofs.Ytjkddoiacifhpaa
