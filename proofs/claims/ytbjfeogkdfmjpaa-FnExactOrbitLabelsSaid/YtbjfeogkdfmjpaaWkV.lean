import Derived.Test.YtbjfeogkdfmjpaaBst
namespace Go.Proofs.Ytbjfeogkdfmjpaa
open Go.RowKit

set_option maxHeartbeats 3200000 in
set_option maxRecDepth 8000 in
theorem sorb_any {A : Option Addr} {c N n p : Nat} {xss : List (List Int)} (w : World) (hx : xss.length = N) (ha : RdSS w A xss) (hN : N ≤ 1048576) (hsys : okSys n xss = true) (hp : p < n) :
    Calls Try.prog 102 #[.slice A N c, .int .i64 p] w (Ret1 w (orbL xss n p)) := by
  have HX := Lib.hid hx
  have HA := Lib.hid ha
  have HS := Lib.hid hsys
  have hn4 := (sys_parts hsys).2.1
  have TT := Lib.hid (show bfs xss [] (n - 0) [(p : Int)] 0 = orbL xss n p from rfl)
  clear hx ha hsys
  by_cases h0 : N = 0
  · subst h0
    have st0 := bst_start0 (w := w) (M := (p + 1)) (by omega) hp
    have hs1 : (w.alloc (Obj.cells #[.int .i64 p] 2)).heap.size = w.heap.size + 1 := by simp
    rw [set_alloc _ _ _ _ _ _ hs1.symm] at st0
    have ST := Lib.hid st0
    clear st0
    have hmk := run_make_row' (P := Try.prog) 54 4 (.bool false) 1 Try.underlying54 Try.infoB rfl .i64 .i64 (p + 1) (by omega) (by omega)
    rw [Int.natCast_add, Int.natCast_one] at hmk
    have hs0 := seen_start (w.alloc (.cells #[.int .i64 p] 2)) (p + 1) (by omega)
    rw [hs1] at hs0
    have hcs := own_cell hs0 (seenL_at (show p < (p + 1) by omega))
    rw [decide_eq_false (by simp)] at hcs
    have hfr := hs0.frozenAt p
    clear hs0
    go_enter Try.func102, Try.ntmps102
    go_wp2
    clear hmk hcs hfr
    go_loopw [5, 8] (fun v q wr => ∃ (i m c' : Nat) (A' : Option Addr) (O : List Int), q = .int .i64 i ∧ v = .slice A' m c' ∧ i ≤ m ∧ bfs xss [] (n - i) O i = orbL xss n p ∧ BSt w w wr (w.heap.size + 1) w.heap.size (p + 1) n [] O A' m c') (fun _ q _ => n - (intOf q).toNat)
    case atStart => exact ⟨0, 1, 1, _, [(p : Int)], rfl, rfl, by omega, TT.out, ST.out⟩
    case round =>
      obtain ⟨i, m, c', A', O, rfl, rfl, him, ht, st⟩ := hrel
      have hlen := st.len
      have S := Lib.hid st
      have HT := Lib.hid ht
      clear st ht
      by_cases hlt : i < m
      · obtain ⟨x, hxx⟩ : ∃ x, O[i]? = some x := ⟨_, List.getElem?_eq_getElem (by omega)⟩
        have HT2 := Lib.hid ((bfs_go (xss := xss) (R := []) (n := n) hxx (by omega)).symm.trans HT.out)
        have HXX := Lib.hid hxx
        clear hxx
        go_wp2
        go_loopw [5, 9] (fun v q wi => ∃ (j m c' : Nat) (A' : Option Addr) (O : List Int), q = .int .i64 j ∧ v = .slice A' m c' ∧ j ≤ 0 ∧ O[i]? = some x ∧ bfs xss [] (n - (i + 1)) (bfsG [] x (xss.drop j) O) (i + 1) = orbL xss n p ∧ BSt w w wi (w.heap.size + 1) w.heap.size (p + 1) n [] O A' m c') (fun _ q _ => 0 - (intOf q).toNat)
        case atStart => exact ⟨0, m, c', A', O, rfl, rfl, Nat.zero_le _, HXX.out, HT2.out, S.out⟩
        case round =>
          obtain ⟨j, m2, c2, A2, O2, rfl, rfl, hj, hxx2, ht2, st2⟩ := hrel
          have hlen2 := st2.len
          have hi2 := (List.getElem?_eq_some_iff.1 hxx2).1
          have S2 := Lib.hid st2
          have HT3 := Lib.hid ht2
          have HXX2 := Lib.hid hxx2
          clear st2 ht2 hxx2
          by_cases hjl : j < 0
          · exact absurd hjl (by omega)
          · have h := HT3.out
            rw [bfsG_end (by rw [HX.out]; omega)] at h
            have H5 := Lib.hid h
            clear h
            go_wp2
            go_roundw
            case rel => exact ⟨i + 1, m2, c2, A2, O2, by go_num, rfl, by omega, H5.out, S2.out⟩
            case measure => simp [intOf]; omega
      · have h := HT.out
        rw [bfs_done (by omega)] at h
        obtain rfl : O = orbL xss n p := h
        obtain rfl : (orbL xss n p).length = m := hlen.1
        go_wp2
        go_ret
        exact ⟨A', c', rfl, S.out.own, S.out.bel⟩
  · skip
    have st0 := bst_start0 (w := w) (M := (n + p + 1)) (by omega) hp
    have hs1 : (w.alloc (Obj.cells #[.int .i64 p] 2)).heap.size = w.heap.size + 1 := by simp
    rw [set_alloc _ _ _ _ _ _ hs1.symm] at st0
    have ST := Lib.hid st0
    clear st0
    have hmk := run_make_row' (P := Try.prog) 54 4 (.bool false) 1 Try.underlying54 Try.infoB rfl .i64 .i64 (n + p + 1) (by omega) (by omega)
    rw [Int.natCast_add, Int.natCast_add, Int.natCast_one] at hmk
    have hs0 := seen_start (w.alloc (.cells #[.int .i64 p] 2)) (n + p + 1) (by omega)
    rw [hs1] at hs0
    have hcs := own_cell hs0 (seenL_at (show p < (n + p + 1) by omega))
    rw [decide_eq_false (by simp)] at hcs
    have hfr := hs0.frozenAt p
    clear hs0
    obtain ⟨b0, o0, A0, c0, g0, rfl, hg0, hc0, hrd0, hms0⟩ := HA.out.row (k := 0) (by rw [HX.out]; omega)
    have hlg0 := sys_len HS.out hg0
    obtain ⟨l0, hl0⟩ : ∃ l, g0.length = l := ⟨_, rfl⟩
    rw [hl0] at hc0 hms0 hlg0
    obtain rfl : n = l0 := by omega
    clear hg0 hrd0 hl0 hlg0
    rw [Nat.add_zero] at hc0
    have hc0 := (((Below.refl w.heap.size w).alloc (Nat.le_refl _) (.cells #[.int .i64 p] 2)).cell (p := ⟨b0, o0, none⟩) (World.block_lt_of_cell? w _ hc0)).trans hc0
    go_enter Try.func102, Try.ntmps102
    go_wp2
    rw [decide_eq_true (show 0 < N by omega)]
    clear hmk hcs hfr
    go_loopw [5, 8] (fun v q wr => ∃ (i m c' : Nat) (A' : Option Addr) (O : List Int), q = .int .i64 i ∧ v = .slice A' m c' ∧ i ≤ m ∧ bfs xss [] (n - i) O i = orbL xss n p ∧ BSt w w wr (w.heap.size + 1) w.heap.size (n + p + 1) n [] O A' m c') (fun _ q _ => n - (intOf q).toNat)
    case atStart => exact ⟨0, 1, 1, _, [(p : Int)], rfl, rfl, by omega, TT.out, ST.out⟩
    case round =>
      obtain ⟨i, m, c', A', O, rfl, rfl, him, ht, st⟩ := hrel
      have hlen := st.len
      have S := Lib.hid st
      have HT := Lib.hid ht
      clear st ht
      by_cases hlt : i < m
      · obtain ⟨x, hxx⟩ : ∃ x, O[i]? = some x := ⟨_, List.getElem?_eq_getElem (by omega)⟩
        have HT2 := Lib.hid ((bfs_go (xss := xss) (R := []) (n := n) hxx (by omega)).symm.trans HT.out)
        have HXX := Lib.hid hxx
        clear hxx
        go_wp2
        go_loopw [5, 9] (fun v q wi => ∃ (j m c' : Nat) (A' : Option Addr) (O : List Int), q = .int .i64 j ∧ v = .slice A' m c' ∧ j ≤ N ∧ O[i]? = some x ∧ bfs xss [] (n - (i + 1)) (bfsG [] x (xss.drop j) O) (i + 1) = orbL xss n p ∧ BSt w w wi (w.heap.size + 1) w.heap.size (n + p + 1) n [] O A' m c') (fun _ q _ => N - (intOf q).toNat)
        case atStart => exact ⟨0, m, c', A', O, rfl, rfl, Nat.zero_le _, HXX.out, HT2.out, S.out⟩
        case round =>
          obtain ⟨j, m2, c2, A2, O2, rfl, rfl, hj, hxx2, ht2, st2⟩ := hrel
          have hlen2 := st2.len
          have hi2 := (List.getElem?_eq_some_iff.1 hxx2).1
          have S2 := Lib.hid st2
          have HT3 := Lib.hid ht2
          have HXX2 := Lib.hid hxx2
          clear st2 ht2 hxx2
          by_cases hjl : j < N
          · obtain ⟨b, o, A3, c3, gg, he, hg, hc, hrd, hms⟩ := (HA.out.keep S2.out.bel).row (k := j) (by rw [HX.out]; exact hjl)
            obtain ⟨rfl, rfl⟩ : b0 = b ∧ o0 = o := by simpa using he
            clear he
            have hlg := sys_len HS.out hg
            obtain ⟨l, hl⟩ : ∃ l, gg.length = l := ⟨_, rfl⟩
            rw [hl] at hc hms hlg
            have hxr := S2.out.ps.1 x (List.mem_append.2 (.inr (List.mem_of_getElem? HXX2.out)))
            obtain ⟨xp, rfl⟩ := Int.eq_ofNat_of_zero_le hxr.1
            obtain ⟨b3, o3, y, rfl, hgy, hcy⟩ := hrd.int (k := xp) (by rw [hl]; omega)
            obtain ⟨q, rfl, hq0⟩ := sys_at HS.out hg hgy
            obtain ⟨b4, o4, x4, rfl, hgx4, hcx4⟩ := (own_rd S2.out.own).int (k := i) hi2
            rw [HXX2.out] at hgx4
            injection hgx4 with hgx4
            subst hgx4
            have hqn : q < n := by omega
            go_wp2
            go_quiet (fail)
            have S3 := Lib.hid (S2.out.drew nq)
            have hcs := own_cell S3.out.seen (seenL_at (show q < (n + p + 1) by omega))
            have hfr := S3.out.seen.frozenAt q
            have HT4 := Lib.hid ((bfsG_go (xss := xss) (R := []) (O := O2) (x := (xp : Int)) (y := (q : Int)) hg (by simp [hgy])) ▸ HT3.out)
            clear hg hgy hrd
            by_cases hin : (q : Int) ∈ [] ++ O2
            · rw [decide_eq_true hin] at hcs
              have h := HT4.out
              rw [if_pos hin] at h
              have H5 := Lib.hid h
              clear h hin
              go_wp2
              go_roundw
              case rel => exact ⟨j + 1, m2, c2, _, O2, by go_num, rfl, by omega, HXX2.out, H5.out, S3.out⟩
              case measure => simp [intOf]; omega
            · rw [decide_eq_false hin] at hcs
              have h := HT4.out
              rw [if_neg hin] at h
              have H5 := Lib.hid h
              have NI := Lib.hid hin
              have hx6 := Lib.hid (show (O2 ++ [(q : Int)])[i]? = some (xp : Int) by rw [List.getElem?_append_left hi2]; exact HXX2.out)
              have OM := Lib.hid (S3.out.mark q)
              have hbc : w.heap.size ≤ ((wr.drewN nq).setCell ⟨(w.heap.size + 1), q, none⟩ (.bool true)).heap.size := by have := S3.out.tu.size; simpa using this
              clear h hin
              go_wp2_with (at_builtin; refine wpList_push2 _ rfl _ _ 24 2 rfl Try.underlying24 (.int .i64 0) 8 Try.info2 rfl w.heap.size _ _ _ rfl OM.out _ rfl ?hx (by omega) (by omega) hbc ?_)
              case hx => simp [Act.eval]
              intro A5 c5 w5 own5 gr5
              have S6 := Lib.hid (S3.out.push hqn NI.out own5 gr5)
              clear own5 gr5
              go_wp2
              go_roundw
              case rel => exact ⟨j + 1, m2 + 1, c5, A5, O2 ++ [(q : Int)], by go_num, rfl, by omega, hx6.out, H5.out, S6.out⟩
              case measure => simp [intOf]; omega
          · have h := HT3.out
            rw [bfsG_end (by rw [HX.out]; omega)] at h
            have H5 := Lib.hid h
            clear h
            go_wp2
            go_roundw
            case rel => exact ⟨i + 1, m2, c2, A2, O2, by go_num, rfl, by omega, H5.out, S2.out⟩
            case measure => simp [intOf]; omega
      · have h := HT.out
        rw [bfs_done (by omega)] at h
        obtain rfl : O = orbL xss n p := h
        obtain rfl : (orbL xss n p).length = m := hlen.1
        go_wp2
        go_ret
        exact ⟨A', c', rfl, S.out.own, S.out.bel⟩
end Go.Proofs.Ytbjfeogkdfmjpaa
