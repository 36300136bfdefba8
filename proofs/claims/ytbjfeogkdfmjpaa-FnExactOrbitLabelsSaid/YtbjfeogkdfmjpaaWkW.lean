import Derived.Test.YtbjfeogkdfmjpaaBst
namespace Go.Proofs.Ytbjfeogkdfmjpaa
open Go.RowKit

set_option maxHeartbeats 3200000 in
theorem iorb_any {A : Option Addr} {c N n p g base : Nat} {xss : List (List Int)} {R : List Int} (w0 w : World) (hx : xss.length = N) (ha : RdSS w0 A xss) (hb0 : Below w0.heap.size w0 w) (hg0 : w0.heap.size ≤ g) (hN : N ≤ 1048576) (hsys : okSys n xss = true) (hp : p < n)
    (hR : Passed n R) (hcl : Closed xss R) (hnp : ¬ (p : Int) ∈ R) (hs : w.ownsRow base 4 1 (.slice (some ⟨g, 0, none⟩) n n) n (seenL n R)) :
    Calls Try.prog 85 #[.slice A N c, .int .i64 p, .slice (some ⟨g, 0, none⟩) n n] w fun e w' => ∃ A' c', e = .returned (.slice A' (orbL xss n p).length c') ∧ w'.ownsRow w.heap.size 2 1 (.slice A' (orbL xss n p).length c') (orbL xss n p).length (ints (orbL xss n p)) ∧
      w'.ownsRow base 4 1 (.slice (some ⟨g, 0, none⟩) n n) n (seenL n (R ++ orbL xss n p)) ∧ Turns g (g + 1) w w' := by
  have HX := Lib.hid hx
  have HA := Lib.hid ha
  have HS := Lib.hid hsys
  have hn4 := (sys_parts hsys).2.1
  have TT := Lib.hid (show bfs xss R (n - 0) [(p : Int)] 0 = orbL xss n p from (orb_aside hsys hR hcl hp hnp).1)
  have ST := Lib.hid (bst_start hs hb0 hg0 hR hp hnp)
  have hs1 := hs.alloc (.cells #[.int .i64 p] 2)
  have hcs := own_cell hs1 (seenL_at hp)
  rw [decide_eq_false hnp] at hcs
  have hfr := hs1.frozenAt p
  clear hx ha hsys hs hs1 hb0
  go_enter Try.func85, Try.ntmps85
  go_wp2
  clear hcs hfr
  go_loopw [7, 8] (fun v q wr => ∃ (i m c' : Nat) (A' : Option Addr) (O : List Int), q = .int .i64 i ∧ v = .slice A' m c' ∧ i ≤ m ∧ bfs xss R (n - i) O i = orbL xss n p ∧ BSt w0 w wr g base n n R O A' m c') (fun _ q _ => n - (intOf q).toNat)
  case atStart => exact ⟨0, 1, 1, _, [(p : Int)], rfl, rfl, by omega, TT.out, ST.out⟩
  case round =>
    obtain ⟨i, m, c', A', O, rfl, rfl, him, ht, st⟩ := hrel
    have hlen := st.len
    have S := Lib.hid st
    have HT := Lib.hid ht
    clear st ht
    by_cases hlt : i < m
    · obtain ⟨x, hxx⟩ : ∃ x, O[i]? = some x := ⟨_, List.getElem?_eq_getElem (by omega)⟩
      have HT2 := Lib.hid ((bfs_go (xss := xss) (R := R) (n := n) hxx (by omega)).symm.trans HT.out)
      have HXX := Lib.hid hxx
      clear hxx
      go_wp2
      go_loopw [7, 25] (fun v q wi => ∃ (j m c' : Nat) (A' : Option Addr) (O : List Int), q = .int .i64 j ∧ v = .slice A' m c' ∧ j ≤ N ∧ O[i]? = some x ∧ bfs xss R (n - (i + 1)) (bfsG R x (xss.drop j) O) (i + 1) = orbL xss n p ∧ BSt w0 w wi g base n n R O A' m c') (fun _ q _ => N - (intOf q).toNat)
      case atStart => exact ⟨0, m, c', A', O, rfl, rfl, Nat.zero_le _, HXX.out, HT2.out, S.out⟩
      case round =>
        obtain ⟨j, m2, c2, A2, O2, rfl, rfl, hj, hxx2, ht2, st2⟩ := hrel
        have hlen2 := st2.len
        have hi2 := (List.getElem?_eq_some_iff.1 hxx2).1
        have S2 := Lib.hid st2
        have HT3 := Lib.hid ht2
        have HXX2 := Lib.hid hxx2
        clear st2 ht2 hxx2
        by_cases hjl : j < N
        · obtain ⟨b, o, A3, c3, gg, rfl, hg, hc, hrd, hms⟩ := (HA.out.keep S2.out.bel).row (k := j) (by rw [HX.out]; exact hjl)
          have hlg := sys_len HS.out hg
          obtain ⟨l, hl⟩ : ∃ l, gg.length = l := ⟨_, rfl⟩
          rw [hl] at hc hms hlg
          have hxr := S2.out.ps.1 x (List.mem_append.2 (.inr (List.mem_of_getElem? HXX2.out)))
          obtain ⟨xp, rfl⟩ := Int.eq_ofNat_of_zero_le hxr.1
          obtain ⟨b3, o3, y, rfl, hgy, hcy⟩ := hrd.int (k := xp) (by rw [hl]; omega)
          obtain ⟨q, rfl, hq0⟩ := sys_at HS.out hg hgy
          obtain ⟨b4, o4, x4, rfl, hgx4, hcx4⟩ := (own_rd S2.out.own).int (k := i) hi2
          rw [HXX2.out] at hgx4
          injection hgx4 with hgx4
          subst hgx4
          have hqn : q < n := by omega
          skip
          have hcs := own_cell S2.out.seen (seenL_at (show q < n by omega))
          have hfr := S2.out.seen.frozenAt q
          have HT4 := Lib.hid ((bfsG_go (xss := xss) (R := R) (O := O2) (x := (xp : Int)) (y := (q : Int)) hg (by simp [hgy])) ▸ HT3.out)
          clear hg hgy hrd
          by_cases hin : (q : Int) ∈ R ++ O2
          · rw [decide_eq_true hin] at hcs
            have h := HT4.out
            rw [if_pos hin] at h
            have H5 := Lib.hid h
            clear h hin
            go_wp2
            go_roundw
            case rel => exact ⟨j + 1, m2, c2, _, O2, by go_num, rfl, by omega, HXX2.out, H5.out, S2.out⟩
            case measure => simp [intOf]; omega
          · rw [decide_eq_false hin] at hcs
            have h := HT4.out
            rw [if_neg hin] at h
            have H5 := Lib.hid h
            have NI := Lib.hid hin
            have hx6 := Lib.hid (show (O2 ++ [(q : Int)])[i]? = some (xp : Int) by rw [List.getElem?_append_left hi2]; exact HXX2.out)
            have OM := Lib.hid (S2.out.mark q)
            have hbc : w.heap.size ≤ (wr.setCell ⟨g, q, none⟩ (.bool true)).heap.size := by have := S2.out.tu.size; simpa using this
            clear h hin
            go_wp2_with (at_builtin; refine wpList_push2 _ rfl _ _ 24 2 rfl Try.underlying24 (.int .i64 0) 8 Try.info2 rfl w.heap.size _ _ _ rfl OM.out _ rfl ?hx (by omega) (by omega) hbc ?_)
            case hx => simp [Act.eval]
            intro A5 c5 w5 own5 gr5
            have S6 := Lib.hid (S2.out.push hqn NI.out own5 gr5)
            clear own5 gr5
            go_wp2
            go_roundw
            case rel => exact ⟨j + 1, m2 + 1, c5, A5, O2 ++ [(q : Int)], by go_num, rfl, by omega, hx6.out, H5.out, S6.out⟩
            case measure => simp [intOf]; omega
        · have h := HT3.out
          rw [bfsG_end (by rw [HX.out]; omega)] at h
          have H5 := Lib.hid h
          clear h
          go_wp2
          go_roundw
          case rel => exact ⟨i + 1, m2, c2, A2, O2, by go_num, rfl, by omega, H5.out, S2.out⟩
          case measure => simp [intOf]; omega
    · have h := HT.out
      rw [bfs_done (by omega)] at h
      obtain rfl : O = orbL xss n p := h
      obtain rfl : (orbL xss n p).length = m := hlen.1
      go_wp2
      go_ret
      exact ⟨A', c', rfl, S.out.own, S.out.seen, S.out.tu⟩
end Go.Proofs.Ytbjfeogkdfmjpaa
