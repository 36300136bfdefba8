/- impl.Poset.marks, hasLists, isTransitive, IsPoset. -/
import Derived.Test.YtmfddenjemoedaaPb
namespace Go.Proofs.Ytmfddenjemoedaa
open Go.RowKit

/-- What a call gives back that marks the points of a list. -/
def RetB (w : World) (n : Nat) (l : List Int) (e : Ending) (w' : World) : Prop :=
  ∃ g, e = .returned (.slice (some ⟨g, 0, none⟩) n n) ∧ w'.ownsRow w.heap.size 4 1 (.slice (some ⟨g, 0, none⟩) n n) n (seenL n l) ∧ Below w.heap.size w w'
set_option maxHeartbeats 800000 in
theorem imarks_any {R : Int} {A B A2 : Option Addr} {N c M d n2 c2 : Nat} {bs : List Int} (w : World) (hN : N ≤ 1048576) (hb : bs.length = n2) (ha : Rd w A2 (ints bs)) (hn2 : n2 ≤ 1048576) (hbd : ∀ x ∈ bs, ∃ j : Nat, x = (j : Int) ∧ j < N) :
    Calls Try.prog 113 #[.agg #[.int .i64 R, .slice A N c, .slice B M d], .slice A2 n2 c2] w (RetB w N bs) := by
  have HB := Lib.hid hb
  have HA := Lib.hid ha
  have HBD := Lib.hid hbd
  have hmk := run_make_row' (P := Try.prog) 84 4 (.bool false) 1 Try.underlying84 Try.infoB rfl .i64 .i64 N (by omega) (by omega)
  have hst := make_own ((w.alloc (.cells #[.int .i64 R, .slice A N c, .slice B M d] 62)).alloc (.cells #[.int .i64 R, .slice A N c, .slice B M d] 62)) (.bool false) N 4 (by unfold maxLen; omega)
  have hs2 : ((w.alloc (.cells #[.int .i64 R, .slice A N c, .slice B M d] 62)).alloc (.cells #[.int .i64 R, .slice A N c, .slice B M d] 62)).heap.size = w.heap.size + 1 + 1 := by simp
  rw [hs2] at hst
  have HST := Lib.hid hst
  clear hb ha hbd hst hs2
  go_enter Try.func113, Try.ntmps113
  go_wp2_with fail
  refine (elems_any _).mono ?_
  rintro e w' ⟨rfl, rfl⟩
  go_wp2
  clear hmk
  go_loopw [13] (fun v wr => ∃ k : Nat, k ≤ n2 ∧ v = .int .i64 k ∧ wr.ownsRow (w.heap.size + 1 + 1) 4 1 (.slice (some ⟨w.heap.size + 1 + 1, 0, none⟩) N N) N (seenL N (bs.take k)) ∧ Below w.heap.size w wr) (fun v _ => n2 - (intOf v).toNat)
  case atStart => exact ⟨0, Nat.zero_le _, rfl, by rw [List.take_zero, seenL_nil]; exact HST.out, below3 _ _ _ _⟩
  case round =>
    obtain ⟨k, hk, rfl, own, bel⟩ := hrel
    have OWN := Lib.hid own
    have BEL := Lib.hid bel
    clear own bel
    by_cases hlt : k < n2
    · obtain ⟨b, o, x, rfl, hg, hc⟩ := (HA.out.keep BEL.out).int (k := k) (by rw [HB.out]; exact hlt)
      obtain ⟨m, rfl, hm⟩ := HBD.out x (List.mem_of_getElem? hg)
      have HG := Lib.hid hg
      have hfr := OWN.out.frozenAt m
      have hcs := own_cell OWN.out (seenL_at hm)
      have hst := OWN.out.stored m (.bool true)
      have O2 := Lib.hid (by have h1 := hst.1; rw [seenL_set, ← take_succ_of HG.out] at h1; exact h1)
      have B2 := Lib.hid (BEL.out.setCell (p := ⟨w.heap.size + 1 + 1, m, none⟩) (show w.heap.size ≤ w.heap.size + 1 + 1 by omega) (.bool true))
      clear hg hst
      go_wp2
      go_roundw
      case rel => exact ⟨k + 1, by omega, by go_num, O2.out, B2.out⟩
      case measure => simp [intOf]; omega
    · have h := OWN.out
      rw [List.take_of_length_le (by rw [HB.out]; omega)] at h
      have O3 := Lib.hid h
      clear h
      go_wp2
      go_ret
      exact ⟨_, rfl, own_base O3.out (by omega), BEL.out⟩

set_option maxHeartbeats 3200000 in
theorem ilists_any {R : Int} {A B : Option Addr} {N c M d : Nat} {xs : List Int} {bss : List (List Int)} (w : World) (hx : xs.length = N) (ha : Rd w A (ints xs)) (hy : bss.length = M) (hb : RdSS w B bss) (hok : RanksOk R xs M) :
    Calls Try.prog 83 #[.agg #[.int .i64 R, .slice A N c, .slice B M d]] w fun e w' => e = .returned (.bool (pB (RowsOk xs bss))) ∧ Below w.heap.size w w' := by
  have HX := Lib.hid hx
  have HA := Lib.hid ha
  have HY := Lib.hid hy
  have HB := Lib.hid hb
  have HOK := Lib.hid hok
  have BX0 := Lib.hid (Bp.start w #[.int .i64 R, .slice A N c, .slice B M d] 62)
  have hN := hok.n
  have hMN : M ≤ N ∧ N ≤ M := by have := hok.len; omega
  obtain ⟨hMN, hNM⟩ := hMN
  rw [hx] at hN
  clear hx ha hy hb hok
  go_enter Try.func83, Try.ntmps83
  go_wp2
  go_loopw [11] (fun v wr => ∃ k : Nat, k ≤ M ∧ v = .int .i64 k ∧ (∀ (e : Nat) (b : List Int), e < k → bss[e]? = some b → RowOk xs e b) ∧ Bp w wr #[.int .i64 R, .slice A N c, .slice B M d] 62) (fun v _ => M - (intOf v).toNat)
  case atStart => exact ⟨0, Nat.zero_le _, rfl, fun e b h => absurd h (by omega), BX0.out⟩
  case round =>
    obtain ⟨k, hk, rfl, hall, bx⟩ := hrel
    have HALL := Lib.hid hall
    have BX := Lib.hid bx
    clear hall bx
    by_cases hlt : k < M
    · obtain ⟨b, o, A2, n2, bs, rfl, hg, hc, hrd, hm⟩ := (HB.out.keep BX.out.below).row (k := k) (by rw [HY.out]; exact hlt)
      obtain ⟨l2, hl2⟩ : ∃ l, bs.length = l := ⟨_, rfl⟩
      rw [hl2] at hc hm
      have HL := Lib.hid hl2
      have HG := Lib.hid hg
      have HRD := Lib.hid hrd
      have hb2 := BX.out.cell2
      clear hl2 hg hrd
      obtain ⟨y, hye⟩ : ∃ y, xs[k]? = some y := ⟨_, List.getElem?_eq_getElem (by rw [HX.out]; omega)⟩
      have HYE := Lib.hid hye
      clear hye
      obtain ⟨wo, rfl⟩ : ∃ wo : World, wo = wr := ⟨_, rfl⟩
      go_wp2
      go_loopw [5, 18] (fun u v wr => ∃ (i : Nat) (l : Int), i ≤ l2 ∧ u = .int .i64 l ∧ v = .int .i64 i ∧ -1 ≤ l ∧ RowTo xs k bs i l ∧ Below wo.heap.size wo wr) (fun _ v _ => l2 - (intOf v).toNat)
      case atStart => exact ⟨0, -1, Nat.zero_le _, rfl, rfl, Int.le_refl _, rowTo_start, Below.refl _ _⟩
      case round =>
        obtain ⟨i, l, hi, rfl, rfl, hl1, rt, bel⟩ := hrel
        have RT := Lib.hid rt
        have BEL := Lib.hid bel
        clear rt bel
        have BX1 := Lib.hid (BX.out.go BEL.out)
        by_cases hil : i < l2
        · obtain ⟨b2, o2, x, rfl, hgx, hcx⟩ := (HRD.out.keep BEL.out).int (k := i) (by rw [HL.out]; exact hil)
          have HGX := Lib.hid hgx
          have hq0 := BelowOf.cell BX1.out.cell0
          have hq1 := BelowOf.cell BX1.out.cell1
          have hq2 := BelowOf.cell BX1.out.cell2
          clear hgx
          by_cases h1 : x ≤ l
          · have hd1 : decide (x ≤ l) = true := decide_eq_true h1
            have hs := Lib.hid (pB_false (p := RowsOk xs bss) fun h => rowTo_bad RT.out HGX.out h1 (h k bs HG.out))
            go_wp2
            refine wp_region_quiet_below (by kernel_rfl) (by kernel_rfl) ?_
            repeat (go_big_quiet_step ((go_at_call 80; exact Calls.below_of (elems_bel _))))
            refine wpQuiet_nil ?_
            intro _ hw'
            obtain ⟨⟨wq, hbq⟩, hw''⟩ := hw'
            subst hw''
            go_wp2
            go_ret
            exact ⟨ret_bool hs.out.symm, (BX1.out.go hbq).below⟩
          · have hd1 : decide (x ≤ l) = false := decide_eq_false h1
            obtain ⟨m, rfl⟩ := Int.eq_ofNat_of_zero_le (show 0 ≤ x by omega)
            by_cases h2 : N ≤ m
            · have hd2 : decide ((N : Int) ≤ (m : Int)) = true := decide_eq_true (by omega)
              have h2I : (N : Int) ≤ (m : Int) := by omega
              have hs := Lib.hid (pB_false (p := RowsOk xs bss) fun h => by
                obtain ⟨j, _, _, h3, _, h4, _⟩ := (h k bs HG.out).el i _ HGX.out
                have := (List.getElem?_eq_some_iff.1 h4).1
                rw [HX.out] at this
                omega)
              go_wp2
              refine wp_region_quiet_below (by kernel_rfl) (by kernel_rfl) ?_
              repeat (go_big_quiet_step ((go_at_call 80; exact Calls.below_of (elems_bel _))))
              refine wpQuiet_nil ?_
              intro _ hw'
              obtain ⟨⟨wq, hbq⟩, hw''⟩ := hw'
              subst hw''
              go_wp2
              go_ret
              exact ⟨ret_bool hs.out.symm, (BX1.out.go hbq).below⟩
            · have hd2 : decide ((N : Int) ≤ (m : Int)) = false := decide_eq_false (by omega)
              have h2I : ¬ (N : Int) ≤ (m : Int) := by omega
              have h3I : (m : Int) < (N : Int) := by omega
              obtain ⟨b3, o3, rx, rfl, hgr, hcr⟩ := (HA.out.keep BX1.out.below).int (k := m) (by rw [HX.out]; omega)
              obtain ⟨b4, o4, ry, he, hgs, hcs⟩ := (HA.out.keep BX1.out.below).int (k := k) (by rw [HX.out]; omega)
              obtain ⟨rfl, rfl⟩ : b3 = b4 ∧ o3 = o4 := by simpa using he
              have HGR := Lib.hid hgr
              have HGS := Lib.hid hgs
              have hqr := BelowOf.cell hcr
              have hqs := BelowOf.cell hcs
              have hkI : (k : Int) < (N : Int) := by omega
              clear he hgr hgs hcr hcs
              by_cases h4 : ry ≤ rx
              · have hd3 : decide (ry ≤ rx) = true := decide_eq_true h4
                have hs := Lib.hid (pB_false (p := RowsOk xs bss) fun h => by
                  obtain ⟨j, u, v, h5, _, h6, h7, h8⟩ := (h k bs HG.out).el i _ HGX.out
                  obtain rfl : m = j := by omega
                  rw [HGR.out] at h6
                  rw [HGS.out] at h7
                  injection h6 with h6
                  injection h7 with h7
                  omega)
                go_wp2
                refine wp_region_quiet_below (by kernel_rfl) (by kernel_rfl) ?_
                repeat (go_big_quiet_step ((go_at_call 80; exact Calls.below_of (elems_bel _))))
                refine wpQuiet_nil ?_
                intro _ hw'
                obtain ⟨⟨wq, hbq⟩, hw''⟩ := hw'
                subst hw''
                go_wp2
                go_ret
                exact ⟨ret_bool hs.out.symm, (BX1.out.go hbq).below⟩
              · have hd3 : decide (ry ≤ rx) = false := decide_eq_false h4
                have RT2 := Lib.hid (rowTo_step RT.out HGX.out (by omega) (rowEl_of HOK.out rfl HGR.out HGS.out (by omega)))
                go_wp2
                refine wp_region_quiet_below (by kernel_rfl) (by kernel_rfl) ?_
                repeat (go_big_quiet_step ((go_at_call 80; exact Calls.below_of (elems_bel _))))
                refine wpQuiet_nil ?_
                intro _ hw'
                obtain ⟨⟨wq, hbq⟩, hw''⟩ := hw'
                subst hw''
                have BEL2 := Lib.hid (BEL.out.trans (hbq.mono BEL.out.size))
                clear hbq
                go_wp2
                go_roundw
                case rel => exact ⟨i + 1, m, by omega, rfl, by go_num, by omega, RT2.out, BEL2.out⟩
                case measure => simp [intOf]; omega
        · have HALL2 := Lib.hid (show ∀ (e : Nat) (b : List Int), e < k + 1 → bss[e]? = some b → RowOk xs e b from fun e b' he hb' => by
            rcases Nat.lt_succ_iff_lt_or_eq.1 he with h | rfl
            · exact HALL.out e b' h hb'
            · have h9 := HG.out
              rw [hb'] at h9
              injection h9 with h9
              subst h9
              exact rowTo_all RT.out (by rw [HL.out]; omega))
          go_wp2
          go_roundw
          case rel => exact ⟨k + 1, by omega, by go_num, HALL2.out, BX1.out⟩
          case measure => simp [intOf]; omega
    · have hs := Lib.hid (pB_true (p := RowsOk xs bss) fun e b hb => HALL.out e b (by have := (List.getElem?_eq_some_iff.1 hb).1; rw [HY.out] at this; omega) hb)
      go_wp2
      go_ret
      exact ⟨ret_bool hs.out.symm, BX.out.below⟩

set_option maxHeartbeats 3200000 in
theorem itrans_any {R : Int} {A B : Option Addr} {N c M d : Nat} {xs : List Int} {bss : List (List Int)} (w : World) (hx : xs.length = N) (hN : N ≤ 500) (hy : bss.length = M) (hMN : M ≤ N) (hNM : N ≤ M) (hb : RdSS w B bss) (hrows : RowsOk xs bss) (hr : ∀ xs ∈ bss, (xs.length : Int) ≤ 1048576) :
    Calls Try.prog 84 #[.agg #[.int .i64 R, .slice A N c, .slice B M d]] w fun e w' => e = .returned (.bool (pB (TrOk bss))) ∧ Below w.heap.size w w' := by
  have HX := Lib.hid hx
  have HY := Lib.hid hy
  have HB := Lib.hid hb
  have HR := Lib.hid hr
  have HROWS := Lib.hid hrows
  have BX0 := Lib.hid (Bp.start w #[.int .i64 R, .slice A N c, .slice B M d] 62)
  clear hx hy hb hrows hr
  go_enter Try.func84, Try.ntmps84
  go_wp2
  go_loopw [13] (fun v wr => ∃ k : Nat, k ≤ M ∧ v = .int .i64 k ∧ (∀ (e : Nat) (b : List Int), e < k → bss[e]? = some b → ∀ d ∈ b, TrEl bss b d) ∧ Bp w wr #[.int .i64 R, .slice A N c, .slice B M d] 62) (fun v _ => M - (intOf v).toNat)
  case atStart => exact ⟨0, Nat.zero_le _, rfl, fun e b h => absurd h (by omega), BX0.out⟩
  case round =>
    obtain ⟨k, hk, rfl, hall, bx⟩ := hrel
    have HALL := Lib.hid hall
    have BX := Lib.hid bx
    clear hall bx
    by_cases hlt : k < M
    · obtain ⟨b, o, A2, c2, bs, rfl, hg, hc, hrd, hm⟩ := (HB.out.keep BX.out.below).row (k := k) (by rw [HY.out]; exact hlt)
      obtain ⟨n2, hl2⟩ : ∃ l, bs.length = l := ⟨_, rfl⟩
      have hlr := HR.out bs (List.mem_of_getElem? hg)
      rw [hl2] at hc hm hlr
      have HL := Lib.hid hl2
      have HG := Lib.hid hg
      have HRD := Lib.hid hrd
      have hb0 := BX.out.cell0
      have hb1 := BX.out.cell1
      have hb2 := BX.out.cell2
      have hbd : ∀ x ∈ bs, ∃ j : Nat, x = (j : Int) ∧ j < N := fun x hxb => by
        obtain ⟨j, h1, _, h2⟩ := RowsOk.bd HROWS.out HG.out hxb
        rw [HX.out] at h2
        exact ⟨j, h1, h2⟩
      have HBD := Lib.hid hbd
      clear hl2 hg hrd hbd
      obtain ⟨wo, rfl⟩ : ∃ wo : World, wo = wr := ⟨_, rfl⟩
      go_wp2_with fail
      refine (imarks_any _ (by omega) HL.out HRD.out (by omega) HBD.out).mono ?_
      rintro e w2 ⟨g, rfl, own, bel⟩
      have OWN := Lib.hid own
      have BX2 := Lib.hid (BX.out.go bel)
      have HRD2 := Lib.hid (HRD.out.keep bel)
      clear own bel hb0 hb1 hb2 hc
      go_wp2
      go_loop [22] (fun v => ∃ i : Nat, i ≤ n2 ∧ v = .int .i64 i ∧ ∀ d ∈ bs.take i, TrEl bss bs d) (fun v => n2 - (intOf v).toNat)
      case atStart => exact ⟨0, Nat.zero_le _, rfl, by simp⟩
      case round =>
        obtain ⟨i, hi, rfl, hal2⟩ := hrel
        have HAL2 := Lib.hid hal2
        clear hal2
        by_cases hil : i < n2
        · obtain ⟨b2, o2, x, rfl, hgx, hcx⟩ := HRD2.out.int (k := i) (by rw [HL.out]; exact hil)
          obtain ⟨j, rfl, hjN⟩ := HBD.out x (List.mem_of_getElem? hgx)
          obtain ⟨b3, o3, A3, c3, r, he, hgr, hcr, hrr, hmr⟩ := (HB.out.keep BX2.out.below).row (k := j) (by rw [HY.out]; omega)
          obtain ⟨rfl, rfl⟩ : b = b3 ∧ o = o3 := by simpa using he
          obtain ⟨n3, hl3⟩ : ∃ l, r.length = l := ⟨_, rfl⟩
          rw [hl3] at hcr hmr
          have HL3 := Lib.hid hl3
          have HGX := Lib.hid hgx
          have HGR := Lib.hid hgr
          have HRR := Lib.hid hrr
          have hb2 := BX2.out.cell2
          have hjM : j < M := by omega
          clear he hl3 hgx hgr hrr
          go_wp2
          go_loop [32] (fun v => ∃ t : Nat, t ≤ n3 ∧ v = .int .i64 t ∧ ∀ c ∈ r.take t, c ∈ bs) (fun v => n3 - (intOf v).toNat)
          case atStart => exact ⟨0, Nat.zero_le _, rfl, by simp⟩
          case round =>
            obtain ⟨t, ht, rfl, hal3⟩ := hrel
            have HAL3 := Lib.hid hal3
            clear hal3
            by_cases htl : t < n3
            · obtain ⟨b4, o4, y, rfl, hgy, hcy⟩ := HRR.out.int (k := t) (by rw [HL3.out]; exact htl)
              obtain ⟨q, rfl, _, hqN⟩ := RowsOk.bd HROWS.out HGR.out (List.mem_of_getElem? hgy)
              rw [HX.out] at hqN
              have HGY := Lib.hid hgy
              have hcs := own_cell OWN.out (seenL_at hqN)
              clear hgy
              by_cases hin : (q : Int) ∈ bs
              · rw [decide_eq_true hin] at hcs
                have HAL4 := Lib.hid (show ∀ c ∈ r.take (t + 1), c ∈ bs from fun c hc => by
                  rw [take_succ_of HGY.out] at hc
                  rcases List.mem_append.1 hc with h | h
                  · exact HAL3.out c h
                  · simp at h; subst h; exact hin)
                clear hin
                go_wp2
                go_round
                case rel => exact ⟨t + 1, by omega, by go_num, HAL4.out⟩
                case measure => simp [intOf]; omega
              · rw [decide_eq_false hin] at hcs
                have hs := Lib.hid (pB_false (p := TrOk bss) fun h => hin (h k bs HG.out _ (List.mem_of_getElem? HGX.out) j r rfl HGR.out _ (List.mem_of_getElem? HGY.out)))
                clear hin
                go_wp2
                go_ret
                exact ⟨ret_bool hs.out.symm, BX2.out.below⟩
            · have HAL4 := Lib.hid (show ∀ d ∈ bs.take (i + 1), TrEl bss bs d from fun d hd => by
                rw [take_succ_of HGX.out] at hd
                rcases List.mem_append.1 hd with h | h
                · exact HAL2.out d h
                · simp at h
                  subst h
                  intro j' r' hj' hr' c hc
                  obtain rfl : j = j' := by omega
                  have h9 := HGR.out
                  rw [hr'] at h9
                  injection h9 with h9
                  subst h9
                  exact HAL3.out c (by rw [List.take_of_length_le (by rw [HL3.out]; omega)]; exact hc))
              go_wp2
              go_round
              case rel => exact ⟨i + 1, by omega, by go_num, HAL4.out⟩
              case measure => simp [intOf]; omega
        · have HALL2 := Lib.hid (show ∀ (e : Nat) (b : List Int), e < k + 1 → bss[e]? = some b → ∀ d ∈ b, TrEl bss b d from fun e b' he hb' => by
            rcases Nat.lt_succ_iff_lt_or_eq.1 he with h | rfl
            · exact HALL.out e b' h hb'
            · have h9 := HG.out
              rw [hb'] at h9
              injection h9 with h9
              subst h9
              intro d hd
              exact HAL2.out d (by rw [List.take_of_length_le (by rw [HL.out]; omega)]; exact hd))
          go_wp2
          go_roundw
          case rel => exact ⟨k + 1, by omega, by go_num, HALL2.out, BX2.out⟩
          case measure => simp [intOf]; omega
    · have hs := Lib.hid (pB_true (p := TrOk bss) fun e b hb => HALL.out e b (by have := (List.getElem?_eq_some_iff.1 hb).1; rw [HY.out] at this; omega) hb)
      go_wp2
      go_ret
      exact ⟨ret_bool hs.out.symm, BX.out.below⟩

set_option maxHeartbeats 1600000 in
theorem iPos_any {R : Int} {A B : Option Addr} {N c M d : Nat} {xs : List Int} {bss : List (List Int)} (w : World) (hx : xs.length = N) (ha : Rd w A (ints xs)) (hy : bss.length = M) (hb : RdSS w B bss) (hN : N ≤ 1048576) (hM : M ≤ 1048576) (hr : ∀ xs ∈ bss, (xs.length : Int) ≤ 1048576) :
    Calls Try.prog 42 #[.agg #[.int .i64 R, .slice A N c, .slice B M d]] w fun e w' => e = .returned (.bool (posB R xs bss)) ∧ Below w.heap.size w w' := by
  have HX := Lib.hid hx
  have HA := Lib.hid ha
  have HY := Lib.hid hy
  have HB := Lib.hid hb
  have HR := Lib.hid hr
  have BX0 := Lib.hid (Bp.start w #[.int .i64 R, .slice A N c, .slice B M d] 62)
  cases h1 : pB (RanksOk R xs M)
  · have hs := Lib.hid (pB_false (p := OkPos R xs bss) fun h => pB_no h1 (hy ▸ h.ranks))
    have H1 := Lib.hid h1
    have q0 := BX0.out.cell0
    have q1 := BX0.out.cell1
    have q2 := BX0.out.cell2
    clear hx ha hy hb hr h1
    go_enter Try.func42, Try.ntmps42
    go_wp2_with fail
    refine (iranks_any _ HX.out (HA.out.keep BX0.out.below) hN hM).mono ?_
    rintro e w1 ⟨rfl, bel⟩
    rw [H1.out]
    have BX1 := Lib.hid (BX0.out.go bel)
    clear bel
    go_wp2
    go_ret
    exact ⟨ret_bool hs.out.symm, BX1.out.below⟩
  · have hrk := pB_iff.1 h1
    have HRK := Lib.hid hrk
    have hN5 : N ≤ 500 := by have := hrk.n; omega
    have hMN : M ≤ N := by have := hrk.len; omega
    have hNM : N ≤ M := by have := hrk.len; omega
    cases h2 : pB (RowsOk xs bss)
    · have hs := Lib.hid (pB_false (p := OkPos R xs bss) fun h => pB_no h2 h.rows)
      have H1 := Lib.hid h1
      have H2 := Lib.hid h2
      have q0 := BX0.out.cell0
      have q1 := BX0.out.cell1
      have q2 := BX0.out.cell2
      clear hx ha hy hb hr h1 h2 hrk
      go_enter Try.func42, Try.ntmps42
      go_wp2_with fail
      refine (iranks_any _ HX.out (HA.out.keep BX0.out.below) hN hM).mono ?_
      rintro e w1 ⟨rfl, bel⟩
      rw [H1.out]
      have BX1 := Lib.hid (BX0.out.go bel)
      clear bel q0 q1 q2
      have q0 := BX1.out.cell0
      have q1 := BX1.out.cell1
      have q2 := BX1.out.cell2
      go_wp2_with fail
      refine (ilists_any _ HX.out (HA.out.keep BX1.out.below) HY.out (HB.out.keep BX1.out.below) HRK.out).mono ?_
      rintro e w2 ⟨rfl, bel⟩
      rw [H2.out]
      have BX2 := Lib.hid (BX1.out.go bel)
      clear bel q0 q1 q2
      go_wp2
      go_ret
      exact ⟨ret_bool hs.out.symm, BX2.out.below⟩
    · have hrw := pB_iff.1 h2
      have HRW := Lib.hid hrw
      have hs := Lib.hid (show posB R xs bss = pB (TrOk bss) from by
        cases h3 : pB (TrOk bss)
        · exact pB_false fun h => pB_no h3 h.tr
        · exact pB_true ⟨hy.symm ▸ hrk, hrw, pB_iff.1 h3⟩)
      have H1 := Lib.hid h1
      have H2 := Lib.hid h2
      have q0 := BX0.out.cell0
      have q1 := BX0.out.cell1
      have q2 := BX0.out.cell2
      clear hx ha hy hb hr h1 h2 hrk hrw
      go_enter Try.func42, Try.ntmps42
      go_wp2_with fail
      refine (iranks_any _ HX.out (HA.out.keep BX0.out.below) hN hM).mono ?_
      rintro e w1 ⟨rfl, bel⟩
      rw [H1.out]
      have BX1 := Lib.hid (BX0.out.go bel)
      clear bel q0 q1 q2
      have q0 := BX1.out.cell0
      have q1 := BX1.out.cell1
      have q2 := BX1.out.cell2
      go_wp2_with fail
      refine (ilists_any _ HX.out (HA.out.keep BX1.out.below) HY.out (HB.out.keep BX1.out.below) HRK.out).mono ?_
      rintro e w2 ⟨rfl, bel⟩
      rw [H2.out]
      have BX2 := Lib.hid (BX1.out.go bel)
      clear bel q0 q1 q2
      have q0 := BX2.out.cell0
      have q1 := BX2.out.cell1
      have q2 := BX2.out.cell2
      go_wp2_with fail
      refine (itrans_any _ HX.out hN5 HY.out hMN hNM (HB.out.keep BX2.out.below) HRW.out HR.out).mono ?_
      rintro e w3 ⟨rfl, bel⟩
      have BX3 := Lib.hid (BX2.out.go bel)
      clear bel q0 q1 q2
      go_wp2
      go_ret
      exact ⟨ret_bool hs.out.symm, BX3.out.below⟩
end Go.Proofs.Ytmfddenjemoedaa
