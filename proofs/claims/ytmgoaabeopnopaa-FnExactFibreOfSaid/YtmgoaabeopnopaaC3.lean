/- The deck moves of a covering: impl.covering.deckMoves, impl.covering.isNormal, spec.l07Deck. -/
import Derived.Test.YtmgoaabeopnopaaC1
namespace Go.Proofs.Ytmgoaabeopnopaa
open Go.RowKit

theorem fib_nat {L : List Int} {f : Int} {n : Nat} (hl : L.length = n) : ∀ (i : Nat), i < (fibL7 L f).length → ∃ q : Nat, (fibL7 L f)[i]? = some (q : Int) ∧ q < n := fun i hi => by
  have h1 : (fibL7 L f)[i]? = some (fibL7 L f)[i] := List.getElem?_eq_getElem hi
  obtain ⟨j, hj, h2, _⟩ := fibTo_in _ _ (List.getElem_mem hi)
  exact ⟨j, by rw [h1, h2], by omega⟩

theorem siso_none {b o c N b1 o1 c1 n c0 q : Nat} {A0 : Option Addr} {xss yss : List (List Int)} (w : World) (hx : xss.length = N) (ha : RdSS w (some ⟨b, o, none⟩) xss) (hy : yss.length = N) (hb : RdSS w (some ⟨b1, o1, none⟩) yss) (hN : N ≤ 1048576) (hsys : okSys n xss = true) (hsy : okSys n yss = true) (h0 : w.cell? ⟨b, o, none⟩ = some (.slice A0 n c0)) (hpos : 0 < N) (hq : q < n) (hall : (orbL xss n ((0 : Nat) : Int)).length = n) (h : isoL xss yss n q = none) :
    Calls Try.prog 150 #[.agg #[.slice (some ⟨b, o, none⟩) N c], .agg #[.slice (some ⟨b1, o1, none⟩) N c1], .int .i64 q] w fun e w' => e = .returned (.tuple #[.slice none 0 0, .bool false]) ∧ Below w.heap.size w w' :=
  (siso_any w hx ha hy hb hN hsys hsy h0 hpos hq hall).mono fun e w' hp => by
    rw [h] at hp
    obtain ⟨bel, ⟨_, rfl⟩ | ⟨L, g, c3, hi, _, _⟩⟩ := hp
    · exact ⟨rfl, bel⟩
    · cases hi
theorem siso_some {b o c N b1 o1 c1 n c0 q : Nat} {A0 : Option Addr} {xss yss : List (List Int)} {L : List Int} (w : World) (hx : xss.length = N) (ha : RdSS w (some ⟨b, o, none⟩) xss) (hy : yss.length = N) (hb : RdSS w (some ⟨b1, o1, none⟩) yss) (hN : N ≤ 1048576) (hsys : okSys n xss = true) (hsy : okSys n yss = true) (h0 : w.cell? ⟨b, o, none⟩ = some (.slice A0 n c0)) (hpos : 0 < N) (hq : q < n) (hall : (orbL xss n ((0 : Nat) : Int)).length = n) (h : isoL xss yss n q = some L) :
    Calls Try.prog 150 #[.agg #[.slice (some ⟨b, o, none⟩) N c], .agg #[.slice (some ⟨b1, o1, none⟩) N c1], .int .i64 q] w fun e w' => ∃ g c3, e = .returned (.tuple #[.slice (some ⟨g, 0, none⟩) n c3, .bool true]) ∧ w'.ownsRow w.heap.size 2 1 (.slice (some ⟨g, 0, none⟩) n c3) n (ints L) ∧ Below w.heap.size w w' :=
  (siso_any w hx ha hy hb hN hsys hsy h0 hpos hq hall).mono fun e w' hp => by
    rw [h] at hp
    obtain ⟨bel, ⟨hi, _⟩ | ⟨L', g, c3, hi, rfl, own⟩⟩ := hp
    · cases hi
    · injection hi with hi
      subst hi
      exact ⟨g, c3, rfl, own, bel⟩

set_option maxHeartbeats 6400000 in
set_option maxRecDepth 8000 in
theorem iDeck_any {AL A A1 : Option Addr} {nL cL N c k c1 : Nat} {xss : List (List Int)} {L : List Int} (w : World) (hm : okMan xss = true) (hx : xss.length = N) (ha : RdSS w A xss) (hl : L.length = nL) (hL : Rd w AL (ints L)) (hln : nL = flN xss) :
    Calls Try.prog 102 #[.agg #[.slice AL nL cL, .slice A N c, .slice A1 k c1]] w (RetSL w (dkL7 xss L)) := by
  have hman := okMan_iff.1 hm
  have hsys := hman.sys
  have hn4 := hman.f4
  have hn2 := hman.f2
  have hpos := hman.pos hx
  have hN : N ≤ 1048576 := by have := hman.r5; omega
  have hall := hman.all (q := 0) (by omega)
  obtain ⟨b, o, A0, c0, rfl, hc0⟩ := man_row0 hman ha
  obtain ⟨n, hn⟩ : ∃ n, flN xss = n := ⟨_, rfl⟩
  have hf : dkL7 xss L = dkTo xss n (fibL7 L (fz L 0)) (fibL7 L (fz L 0)).length := by rw [dkL7, hn]
  rw [hf]
  rw [hn] at hc0 hsys hn2 hn4 hall hln
  subst hln
  have HFN := Lib.hid (fib_nat (f := fz L 0) hl)
  obtain ⟨bl, ol, y, hAL, hgy, hcy⟩ := hL.int (k := 0) (by omega)
  subst hAL
  rw [Nat.add_zero] at hcy
  have hy0 : fz L 0 = y := fz_at hgy
  rw [hy0] at HFN ⊢
  have HFL := Lib.hid (show (fibL7 L y).length ≤ nL from by have := fibTo_len (L := L) (f := y) L.length; rw [← hl]; exact this)
  obtain ⟨FB, hFB⟩ : ∃ FB, fibL7 L y = FB := ⟨_, rfl⟩
  have HFB := Lib.hid hFB
  rw [hFB] at HFN HFL ⊢
  have HX := Lib.hid hx
  have HA := Lib.hid ha
  have HC0 := Lib.hid hc0
  have HS := Lib.hid hsys
  have HALL := Lib.hid hall
  have HLL := Lib.hid hl
  have HL := Lib.hid hL
  have HCY := Lib.hid hcy
  have hnp : 0 < nL := by omega
  clear hx ha hc0 hsys hall hman hm hf hn hgy hcy hFB hy0 hl hL
  have st0 := ((St.start w).addBlk #[.slice (some ⟨bl, ol, none⟩) nL cL, .slice (some ⟨b, o, none⟩) N c, .slice A1 k c1] 88).addNilRows 2 36
  simp at st0
  have S0 := Lib.hid (st0.go (below_drewN (Below.refl _ _) 1))
  have x0 := (st0.blk (i := 0) rfl).cell (i := 0) rfl
  have y0 := (st0.blk (i := 0) rfl).cell (i := 1) rfl
  have hc1 := cell_be HCY.out st0.below
  clear st0
  go_enter Try.func102, Try.ntmps102
  go_wp2
  go_region_law ((go_simp; go_at_call 100
                  refine (iFib_any y _ HLL.out (HL.out.keep S0.out.below) (by omega)).mono ?_
                  rintro e w1 ⟨A2, m2, c2, rfl, hm2, own, bel⟩
                  rw [HFB.out] at hm2 own
                  have S1 := Lib.hid (S0.out.addOwn bel own (Nat.le_refl _))
                  have HM2 := Lib.hid hm2
                  clear bel own hm2))
  all_goals
    have hm2n : m2 ≤ nL := by rw [← HM2.out]; exact HFL.out
    have S2 := S1
    clear S1 S0 hc1 x0 y0
    go_simp
    go_wp2
    go_loopw [3, 15] (fun u i wr => ∃ (j m c' : Nat) (A' : Option Addr) (vals : List Value), j ≤ m2 ∧ m ≤ j ∧ i = .int .i64 j ∧ u = .slice A' m c' ∧ St w wr [.blk w.heap.size #[.slice (some ⟨bl, ol, none⟩) nL cL, .slice (some ⟨b, o, none⟩) N c, .slice A1 k c1] 88, .rows 2 36 A' m c' vals (dkTo xss nL FB j), .own 2 A2 m2 c2 (ints FB)]) (fun _ i _ => m2 - (intOf i).toNat)
    case atStart => exact ⟨0, 0, 0, _, [], Nat.zero_le _, Nat.le_refl _, rfl, rfl, by simpa [dkTo] using S2.out⟩
    case round =>
      obtain ⟨j, m, c', A', vals, hj, hmj, rfl, rfl, st⟩ := hrel
      have S := Lib.hid st
      clear st S2
      by_cases hlt : j < m2
      · obtain ⟨q, hq, hqn⟩ := HFN.out j (by rw [HM2.out]; exact hlt)
        obtain ⟨g2, rfl⟩ := own_shape (S.out.own (i := 2) rfl) (by omega)
        have hcx := own_cell (S.out.own (i := 2) rfl) (show (ints FB)[j]? = some (.int .i64 q) by simp [hq])
        have HQ := Lib.hid (show fz FB j = (q : Int) from fz_at hq)
        have x1 := (S.out.blk (i := 0) rfl).cell (i := 1) rfl
        clear hq
        have S3 := S
        go_wp2_with fail
        refine (iisoTo_any (q := q) _ HX.out (HA.out.keep S3.out.below) HX.out (HA.out.keep S3.out.below) hN HS.out HS.out (cell_be HC0.out S3.out.below) hpos hqn HALL.out).mono ?_
        rintro e w3 ⟨bel, ⟨hi, rfl⟩ | ⟨L2, g, c3, hi, rfl, own⟩⟩
        · clear hcx x1
          have S4 := Lib.hid (S3.out.go bel)
          have NO := Lib.hid (dkTo_none HQ.out hi)
          clear bel hi
          go_wp2
          go_roundw
          case rel => exact ⟨j + 1, m, c', A', vals, by omega, by omega, by go_num, rfl, by rw [NO.out]; exact S4.out⟩
          case measure => simp [intOf]; omega
        · clear hcx x1
          have S4 := Lib.hid (S3.out.addOwn bel own (Nat.le_refl _))
          have YES := Lib.hid (dkTo_some HQ.out hi)
          have LEN := Lib.hid (isoL_len hi)
          have hlo := S4.out.lo
          clear bel hi own
          go_wp2_with (at_builtin; refine wpList_push_at _ rfl _ _ 22 36 rfl Try.underlying22 (.slice none 0 0) 24 Try.infoS rfl w.heap.size _ _ _ rfl (S4.out.rows (i := 1) rfl) _ rfl rfl (by omega) (by omega) hlo ?_)
          intro A8 c8 w8 own8 gr8 hat8
          have st8 := (S4.out.rowPush (i := 1) (j := 3) rfl rfl LEN.out (by decide) (by decide) own8 gr8 hat8).take 3
          have S8 := Lib.hid st8
          clear own8 gr8 hat8 st8
          go_wp2
          go_roundw
          case rel => exact ⟨j + 1, m + 1, c8, A8, _, by omega, by omega, by go_num, rfl, by rw [YES.out]; exact S8.out⟩
          case measure => simp [intOf]; omega
      · obtain rfl : j = m2 := by omega
        have hml := S.out.sep.rows_len (i := 1) rfl
        have HML := Lib.hid hml
        clear hml
        go_wp2
        go_ret
        exact ⟨A', m, c', rfl, by rw [HM2.out]; exact HML.out, by rw [HM2.out]; exact (S.out.sep.ownSS (i := 1) rfl), S.out.below⟩

set_option maxHeartbeats 6400000 in
set_option maxRecDepth 8000 in
theorem sDeck_any {AL A : Option Addr} {nL cL N c : Nat} {xss : List (List Int)} {L : List Int} (w : World) (hm : okMan xss = true) (hx : xss.length = N) (ha : RdSS w A xss) (hl : L.length = nL) (hL : Rd w AL (ints L)) (hln : nL = flN xss) :
    Calls Try.prog 101 #[.agg #[.slice A N c], .slice AL nL cL] w (RetSL w (dkL7 xss L)) := by
  have hman := okMan_iff.1 hm
  have hsys := hman.sys
  have hn4 := hman.f4
  have hn2 := hman.f2
  have hpos := hman.pos hx
  have hN : N ≤ 1048576 := by have := hman.r5; omega
  have hall := hman.all (q := 0) (by omega)
  obtain ⟨b, o, A0, c0, rfl, hc0⟩ := man_row0 hman ha
  obtain ⟨n, hn⟩ : ∃ n, flN xss = n := ⟨_, rfl⟩
  have hf : dkL7 xss L = dkTo xss n (fibL7 L (fz L 0)) (fibL7 L (fz L 0)).length := by rw [dkL7, hn]
  rw [hf]
  rw [hn] at hc0 hsys hn2 hn4 hall hln
  subst hln
  have HFN := Lib.hid (fib_nat (f := fz L 0) hl)
  obtain ⟨bl, ol, y, hAL, hgy, hcy⟩ := hL.int (k := 0) (by omega)
  subst hAL
  rw [Nat.add_zero] at hcy
  have hy0 : fz L 0 = y := fz_at hgy
  rw [hy0] at HFN ⊢
  have HFL := Lib.hid (show (fibL7 L y).length ≤ nL from by have := fibTo_len (L := L) (f := y) L.length; rw [← hl]; exact this)
  obtain ⟨FB, hFB⟩ : ∃ FB, fibL7 L y = FB := ⟨_, rfl⟩
  have HFB := Lib.hid hFB
  rw [hFB] at HFN HFL ⊢
  have HX := Lib.hid hx
  have HA := Lib.hid ha
  have HC0 := Lib.hid hc0
  have HS := Lib.hid hsys
  have HALL := Lib.hid hall
  have HLL := Lib.hid hl
  have HL := Lib.hid hL
  have HCY := Lib.hid hcy
  have hnp : 0 < nL := by omega
  clear hx ha hc0 hsys hall hman hm hf hn hgy hcy hFB hy0 hl hL
  have st0 := ((St.start w).addBlk #[.slice (some ⟨b, o, none⟩) N c] 27).addMadeRows 2 36
  simp at st0
  have S0 := Lib.hid st0
  have hc1 := cell_be HCY.out S0.out.below
  clear st0
  go_enter Try.func101, Try.ntmps101
  go_wp2_with fail
  refine (sFib_any y _ HLL.out (HL.out.keep S0.out.below) (by omega)).mono ?_
  rintro e w1 ⟨A2, m2, c2, rfl, hm2, own, bel⟩
  rw [HFB.out] at hm2 own
  have S1 := Lib.hid (S0.out.addOwn bel own (Nat.le_refl _))
  have HM2 := Lib.hid hm2
  clear bel own hm2
  have hm2n : m2 ≤ nL := by rw [← HM2.out]; exact HFL.out
  have S2 := S1
  clear S1 S0 hc1
  go_wp2
  go_loopw [5, 7] (fun u i wr => ∃ (j m c' : Nat) (A' : Option Addr) (vals : List Value), j ≤ m2 ∧ m ≤ j ∧ i = .int .i64 j ∧ u = .slice A' m c' ∧ St w wr [.blk w.heap.size #[.slice (some ⟨b, o, none⟩) N c] 27, .rows 2 36 A' m c' vals (dkTo xss nL FB j), .own 2 A2 m2 c2 (ints FB)]) (fun _ i _ => m2 - (intOf i).toNat)
  case atStart => exact ⟨0, 0, 0, _, [], Nat.zero_le _, Nat.le_refl _, rfl, rfl, by simpa [dkTo] using S2.out⟩
  case round =>
    obtain ⟨j, m, c', A', vals, hj, hmj, rfl, rfl, st⟩ := hrel
    have S := Lib.hid st
    clear st S2
    by_cases hlt : j < m2
    · obtain ⟨q, hq, hqn⟩ := HFN.out j (by rw [HM2.out]; exact hlt)
      obtain ⟨g2, rfl⟩ := own_shape (S.out.own (i := 2) rfl) (by omega)
      have hcx := own_cell (S.out.own (i := 2) rfl) (show (ints FB)[j]? = some (.int .i64 q) by simp [hq])
      have HQ := Lib.hid (show fz FB j = (q : Int) from fz_at hq)
      have x1 := (S.out.blk (i := 0) rfl).cell (i := 0) rfl
      clear hq
      have S3 := Lib.hid (S.out.go (below_drewN (Below.refl _ _) 1))
      obtain ⟨F, hF⟩ : ∃ F, isoL xss xss nL q = F := ⟨_, rfl⟩
      cases F with
      | none =>
        have hi := hF
        have HI := Lib.hid hF
        clear hi hF
        go_wp2
        go_region_law ((go_simp; go_at_call 150
                        refine (siso_none (q := q) _ HX.out (HA.out.keep S3.out.below) HX.out (HA.out.keep S3.out.below) hN HS.out HS.out (cell_be HC0.out S3.out.below) hpos hqn HALL.out HI.out).mono ?_
                        rintro e w3 ⟨rfl, bel⟩
                        have BE := Lib.hid bel
                        clear bel))
        all_goals
          have bel := BE.out
          have hi := HI.out
          have S4 := Lib.hid (S3.out.go bel)
          have NO := Lib.hid (dkTo_none HQ.out hi)
          clear bel hi
          go_wp2
          go_roundw
          case rel => exact ⟨j + 1, m, c', A', vals, by omega, by omega, by go_num, rfl, by rw [NO.out]; exact S4.out⟩
          case measure => simp [intOf]; omega
      | some L2 =>
        have HI := Lib.hid hF
        clear hF
        go_wp2
        go_region_law ((go_simp; go_at_call 150
                        refine (siso_some (q := q) _ HX.out (HA.out.keep S3.out.below) HX.out (HA.out.keep S3.out.below) hN HS.out HS.out (cell_be HC0.out S3.out.below) hpos hqn HALL.out HI.out).mono ?_
                        rintro e w3 ⟨g, c3, rfl, own, bel⟩
                        have BE := Lib.hid bel
                        have OWN := Lib.hid own
                        clear bel own))
        all_goals
          have bel := BE.out
          have hi := HI.out
          have own := OWN.out
          have S4 := Lib.hid (S3.out.addOwn bel own (Nat.le_refl _))
          have YES := Lib.hid (dkTo_some HQ.out hi)
          have LEN := Lib.hid (isoL_len hi)
          have hlo := S4.out.lo
          clear bel hi own
          go_wp2_with (at_builtin; refine wpList_push_at _ rfl _ _ 22 36 rfl Try.underlying22 (.slice none 0 0) 24 Try.infoS rfl w.heap.size _ _ _ rfl (S4.out.rows (i := 1) rfl) _ rfl rfl (by omega) (by omega) hlo ?_)
          intro A8 c8 w8 own8 gr8 hat8
          have st8 := (S4.out.rowPush (i := 1) (j := 3) rfl rfl LEN.out (by decide) (by decide) own8 gr8 hat8).take 3
          have S8 := Lib.hid st8
          clear own8 gr8 hat8 st8
          go_wp2
          go_roundw
          case rel => exact ⟨j + 1, m + 1, c8, A8, _, by omega, by omega, by go_num, rfl, by rw [YES.out]; exact S8.out⟩
          case measure => simp [intOf]; omega
    · obtain rfl : j = m2 := by omega
      have hml := S.out.sep.rows_len (i := 1) rfl
      have HML := Lib.hid hml
      clear hml
      go_wp2
      go_ret
      exact ⟨A', m, c', rfl, by rw [HM2.out]; exact HML.out, by rw [HM2.out]; exact (S.out.sep.ownSS (i := 1) rfl), S.out.below⟩

end Go.Proofs.Ytmgoaabeopnopaa
