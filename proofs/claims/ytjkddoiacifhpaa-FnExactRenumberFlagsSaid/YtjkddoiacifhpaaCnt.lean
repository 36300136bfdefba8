import Derived.Test.YtjkddoiacifhpaaFas
namespace Go.Proofs.Ytjkddoiacifhpaa
open Go.RowKit

theorem ownSS_cap {w : World} {lo hi e n c : Nat} {A : Option Addr} {xss : List (List Int)} (h : OwnSS w lo hi e A n c xss) : n ≤ c ∧ c ≤ 9223372036854775807 := by
  obtain ⟨vals, h1, _⟩ := h
  rcases h1.2 with ⟨hv, h0⟩ | ⟨g, cap, cur, hv, _, _, h2, h3, _⟩
  · simp only [Value.slice.injEq] at hv
    omega
  · simp only [Value.slice.injEq] at hv
    unfold maxLen at h3
    omega
theorem facL_len (xss : List (List Int)) (n i : Nat) : (facL xss n i).length = n := labL_length _ _
theorem facL_in {xss : List (List Int)} {n i : Nat} (hsys : okSys n xss = true) : ∀ x ∈ facL xss n i, 0 ≤ x ∧ x < (n : Int) := labL_in (okSys_erase hsys i)
theorem grt_fac {xss : List (List Int)} {n i : Nat} (hsys : okSys n xss = true) : 0 ≤ grtL (facL xss n i) ∧ grtL (facL xss n i) ≤ (n : Int) := by
  have h := grtL_bd (facL_in (i := i) hsys) n
  rwa [List.take_of_length_le (by rw [facL_len]; omega)] at h
/-- The numbers of faces of the ranks below k. -/
def cntTo (xss : List (List Int)) (n k : Nat) : List Int := (List.range k).map fun i => grtL (facL xss n i)
theorem cntTo_len (xss : List (List Int)) (n k : Nat) : (cntTo xss n k).length = k := by simp [cntTo]
theorem cntTo_succ (xss : List (List Int)) (n k : Nat) : cntTo xss n (k + 1) = cntTo xss n k ++ [grtL (facL xss n k)] := by simp [cntTo, List.range_succ]
theorem cntTo_at {xss : List (List Int)} {n N k : Nat} (h : k < N) : (cntTo xss n N)[k]? = some (grtL (facL xss n k)) := by simp [cntTo, h]
theorem retN_1 {w w' : World} {L : List Int} {n : Nat} {e : Ending} (hl : L.length = n) (h : RetN w L n e w') : Ret1 w L e w' := by
  obtain ⟨A, c, h1, h2, h3⟩ := h
  subst hl
  exact ⟨A, c, h1, h2, h3⟩

set_option maxHeartbeats 800000 in
theorem grt_any {A : Option Addr} {c n : Nat} {l : List Int} (w : World) (hx : l.length = n) (ha : Rd w A (ints l)) (hn : n ≤ 1048576) (hb : ∀ x ∈ l, 0 ≤ x ∧ x < (n : Int)) :
    Calls Try.prog 176 #[.slice A n c] w fun e w' => e = .returned (.int .i64 (grtL l)) ∧ w = w' := by
  have HX := Lib.hid hx
  have HA := Lib.hid ha
  have HB := Lib.hid hb
  have HG := Lib.hid (grtL_bd hb)
  clear hx ha hb
  go_enter Try.func176, Try.ntmps176
  go_wp2
  go_loop [3, 4] (fun v i => ∃ (k : Nat) (M : Int), k ≤ n ∧ i = .int .i64 k ∧ v = .int .i64 M ∧ M = grtL (l.take k)) (fun _ i => n - (intOf i).toNat)
  case atStart => exact ⟨0, 0, Nat.zero_le _, rfl, rfl, by simp [grtL]⟩
  case round =>
    obtain ⟨k, M, hk, rfl, rfl, hM⟩ := hrel
    have HM := Lib.hid hM
    clear hM
    by_cases hlt : k < n
    · obtain ⟨b, o, x, rfl, hgx, hcx⟩ := HA.out.int (k := k) (by rw [HX.out]; exact hlt)
      have hxb := HB.out x (List.mem_of_getElem? hgx)
      have HS := Lib.hid (grtL_succ hgx)
      clear hgx
      by_cases hge : M ≤ x
      · go_wp2
        go_round
        case rel => exact ⟨k + 1, x + 1, by omega, by go_num, rfl, by rw [HS.out, ← HM.out, if_pos hge]⟩
        case measure => simp [intOf]; omega
      · go_wp2
        go_round
        case rel => exact ⟨k + 1, M, by omega, by go_num, rfl, by rw [HS.out, ← HM.out, if_neg hge]⟩
        case measure => simp [intOf]; omega
    · have HE := Lib.hid (show M = grtL l by rw [HM.out, List.take_of_length_le (by rw [HX.out]; omega)])
      go_wp2
      go_ret
      exact ⟨ret_i64 HE.out, rfl⟩

set_option maxHeartbeats 1600000 in
theorem scnt_any {b o c N n c0 : Nat} {A0 : Option Addr} {xss : List (List Int)} (w : World) (hx : xss.length = N) (ha : RdSS w (some ⟨b, o, none⟩) xss) (hsys : okSys n xss = true) (h0 : w.cell? ⟨b, o, none⟩ = some (.slice A0 n c0)) :
    Calls Try.prog 123 #[.agg #[.slice (some ⟨b, o, none⟩) N c]] w (RetN w (cntTo xss n N) N) := by
  have hN := (sys_parts hsys).2.2.1
  rw [hx] at hN
  have hn4 := (sys_parts hsys).2.1
  have HX := Lib.hid hx
  have HA := Lib.hid ha
  have HS := Lib.hid hsys
  have HC0 := Lib.hid h0
  have BX0 := Lib.hid (Bx.start w (.slice (some ⟨b, o, none⟩) N c) 51)
  clear hx ha hsys h0
  go_enter Try.func123, Try.ntmps123
  go_wp2
  go_loopw [3, 4] (fun v i wr => ∃ k : Nat, k ≤ N ∧ i = .int .i64 k ∧ ∃ A' c', v = .slice A' k c' ∧ wr.ownsRow (w.heap.size + 1) 2 1 (.slice A' k c') k (ints (cntTo xss n k)) ∧ Bx w wr (.slice (some ⟨b, o, none⟩) N c) 51) (fun _ i _ => N - (intOf i).toNat)
  case atStart => exact ⟨0, Nat.zero_le _, rfl, _, _, rfl, by simpa [cntTo] using World.ownsRow_made (base := w.heap.size + 1) (e := 2) (size := 1) (w.alloc (.cells #[.slice (some ⟨b, o, none⟩) N c] 51)) #[] 0 (by simp) (Nat.zero_le _) (by simp), BX0.out.al _⟩
  case round =>
    obtain ⟨k, hk, rfl, A', c', rfl, own, bx⟩ := hrel
    have OWN := Lib.hid own
    have BX := Lib.hid bx
    have HCR := Lib.hid (cell_be HC0.out bx.below)
    have HAR := Lib.hid (HA.out.keep bx.below)
    have hbc := bx.cell
    clear own bx
    by_cases hlt : k < N
    · have HIN := Lib.hid (facL_in (i := k) HS.out)
      have HGB := Lib.hid (grt_fac (i := k) HS.out)
      go_wp2_with fail
      refine (sfaces_any wr HX.out HAR.out HS.out HCR.out hlt).mono ?_
      rintro e w1 ⟨A1, c1, rfl, own1, bel1⟩
      have OW1 := Lib.hid own1
      have OWN1 := Lib.hid (own_below OWN.out bel1 (Nat.le_refl _))
      have BX1 := Lib.hid (BX.out.go bel1)
      have hsz := BX1.out.size
      clear own1 bel1
      go_wp2_with fail
      refine (grt_any w1 (facL_len _ _ _) (own_rd OW1.out) (by omega) HIN.out).mono ?_
      rintro e w2 ⟨rfl, rfl⟩
      go_wp2_with (at_builtin; refine wpList_push2 _ rfl _ _ 24 2 rfl Try.underlying24 (.int .i64 0) 8 Try.info2 rfl (w.heap.size + 1) _ _ _ rfl OWN1.out _ rfl rfl (by omega) (by omega) (by omega) ?_)
      intro A3 c3 w3 own3 gr3
      have OWN3 := Lib.hid own3
      have BX3 := Lib.hid (show Bx w w3 (.slice (some ⟨b, o, none⟩) N c) 51 from ⟨(BX1.out.bel.alloc (by omega) _).grown gr3 (by simp; omega) fun q hq => (OWN1.out.lt q hq).1⟩)
      clear own3 gr3
      go_wp2
      go_roundw
      case rel => exact ⟨k + 1, by omega, by go_num, A3, c3, rfl, by rw [cntTo_succ]; simpa using OWN3.out, BX3.out⟩
      case measure => simp [intOf]; omega
    · obtain rfl : k = N := by omega
      go_wp2
      go_ret
      exact ⟨A', c', rfl, own_base OWN.out (by omega), BX.out.below⟩

set_option maxHeartbeats 1600000 in
theorem icnt_any {b o c N n c0 : Nat} {A0 : Option Addr} {xss : List (List Int)} (w : World) (hx : xss.length = N) (ha : RdSS w (some ⟨b, o, none⟩) xss) (hsys : okSys n xss = true) (h0 : w.cell? ⟨b, o, none⟩ = some (.slice A0 n c0)) (hcap : N ≤ c) (hc63 : c ≤ 9223372036854775807) (hn : 0 < n) :
    Calls Try.prog 121 #[.agg #[.slice (some ⟨b, o, none⟩) N c]] w (RetN w (cntTo xss n N) N) := by
  have hN := (sys_parts hsys).2.2.1
  rw [hx] at hN
  have HX := Lib.hid hx
  have HA := Lib.hid ha
  have HS := Lib.hid hsys
  have HC0 := Lib.hid h0
  have BX0 := Lib.hid ((Bx.start w (.slice (some ⟨b, o, none⟩) N c) 51).al (.cells #[.slice (some ⟨b, o, none⟩) N c] 51))
  have hmk := run_make_row' (P := Try.prog) 24 2 (.int .i64 0) 8 Try.underlying24 Try.info2 rfl .i64 .i64 N (by omega) (by omega)
  clear hx ha hsys h0
  go_enter Try.func121, Try.ntmps121
  go_wp2_with fail
  refine (rank_any _).mono ?_
  rintro e w' ⟨rfl, rfl⟩
  go_wp2_with fail
  refine (rank_any _).mono ?_
  rintro e w' ⟨rfl, rfl⟩
  obtain ⟨w1, hw1⟩ : ∃ w1 : World, w1 = ((w.alloc (.cells #[.slice (some ⟨b, o, none⟩) N c] 51)).alloc (.cells #[.slice (some ⟨b, o, none⟩) N c] 51)) := ⟨_, rfl⟩
  rw [← hw1] at BX0 ⊢
  have hg := BX0.out.size
  have OW0 := Lib.hid ((own_base (make_own w1 (.int .i64 0) N 2 (by unfold maxLen; omega)) (show w.heap.size + 1 ≤ w1.heap.size by omega)).alloc (.cells #[.slice (some ⟨b, o, none⟩) N c] 51))
  have BX1 := Lib.hid ((BX0.out.al (.cells (madeCells #[.int .i64 0] N) 2)).al (.cells #[.slice (some ⟨b, o, none⟩) N c] 51))
  have hgg : w1.heap.size = w.heap.size + 1 + 1 := by rw [hw1]; simp
  rw [hgg] at OW0
  clear hw1 hmk hgg hg
  go_wp2
  obtain ⟨g, hgg⟩ : ∃ g : Nat, w.heap.size + 1 + 1 = g := ⟨_, rfl⟩
  rw [hgg] at OW0 ⊢
  clear hgg
  go_loopw [10] (fun i wr => ∃ k : Nat, k ≤ N ∧ i = .int .i64 k ∧ wr.ownsRow (w.heap.size + 1) 2 1 (.slice (some ⟨g, 0, none⟩) N N) N (ints (cntTo xss n k ++ List.replicate (N - k) 0)) ∧ Bx w wr (.slice (some ⟨b, o, none⟩) N c) 51) (fun i _ => N - (intOf i).toNat)
  case atStart => exact ⟨0, Nat.zero_le _, rfl, by simpa [cntTo] using OW0.out, BX1.out⟩
  case round =>
    obtain ⟨k, hk, rfl, own, bx⟩ := hrel
    have OWN := Lib.hid own
    have BX := Lib.hid bx
    have HCR := Lib.hid (cell_be HC0.out bx.below)
    have HAR := Lib.hid (HA.out.keep bx.below)
    have hbc := bx.cell
    clear own bx
    by_cases hlt : k < N
    · go_wp2_with fail
      refine (ifaces_any wr HX.out HAR.out HS.out HCR.out hlt hcap hc63 hn).mono ?_
      rintro e w2 ⟨A2, c2, rfl, own2, bel2⟩
      have OWN2 := Lib.hid (own_below OWN.out bel2 (Nat.le_refl _))
      have BX2 := Lib.hid (BX.out.go bel2)
      have hcell := own_cell OWN2.out (show (ints (cntTo xss n k ++ List.replicate (N - k) 0))[k]? = some (.int .i64 0) by
        rw [ints, List.map_append, List.getElem?_append_right (by simp [cntTo_len])]
        simp [cntTo_len, List.getElem?_replicate]
        omega)
      have hfr := OWN2.out.frozenAt k
      have hst := OWN2.out.stored k (.int .i64 (grtL (facL xss n k)))
      have O3 := Lib.hid hst.1
      have B3 := Lib.hid (show Bx w (w2.setCell ⟨g, k, none⟩ (.int .i64 (grtL (facL xss n k)))) (.slice (some ⟨b, o, none⟩) N c) 51 from ⟨BX2.out.bel.setCell (p := ⟨g, k, none⟩) (OWN2.out.lt g rfl).1 _⟩)
      have HE := Lib.hid (show (cntTo xss n k ++ List.replicate (N - k) 0).set k (grtL (facL xss n k)) = cntTo xss n (k + 1) ++ List.replicate (N - (k + 1)) 0 by
        rw [List.set_append_right _ _ (by rw [cntTo_len]; exact Nat.le_refl _), cntTo_len, Nat.sub_self, show N - k = (N - (k + 1)) + 1 by omega, List.replicate_succ, List.set_cons_zero, cntTo_succ]
        simp)
      clear own2 bel2 hst hbc
      go_wp2
      go_roundw
      case rel => exact ⟨k + 1, by omega, by go_num, by have h := O3.out; rwa [ints_set, HE.out] at h, B3.out⟩
      case measure => simp [intOf]; omega
    · obtain rfl : k = N := by omega
      have h := OWN.out
      rw [Nat.sub_self, List.replicate_zero, List.append_nil] at h
      have OE := Lib.hid h
      clear h
      go_wp2
      go_ret
      exact ⟨_, _, rfl, own_base OE.out (by omega), BX.out.below⟩
end Go.Proofs.Ytjkddoiacifhpaa
