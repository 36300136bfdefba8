import Derived.Test.YtjkddoiacifhpaaCol
namespace Go.Proofs.Ytjkddoiacifhpaa
open Go.RowKit

set_option maxHeartbeats 3200000 in
set_option maxRecDepth 8000 in
theorem icol_any {b o c N n c0 : Nat} {A0 : Option Addr} {xss : List (List Int)} (w : World) (hx : xss.length = N) (ha : RdSS w (some ⟨b, o, none⟩) xss) (hN : N ≤ 1048576) (hsys : okSys n xss = true) (h0 : w.cell? ⟨b, o, none⟩ = some (.slice A0 n c0)) (hpos : 0 < N) (h2 : 2 ≤ n) (hall : (orbL xss n ((0 : Nat) : Int)).length = n) :
    Calls Try.prog 137 #[.agg #[.slice (some ⟨b, o, none⟩) N c]] w (RetSB w (colR xss n) (colB xss n)) := by
  have hp : 0 < n := by omega
  have HX := Lib.hid hx
  have HA := Lib.hid ha
  have HS := Lib.hid hsys
  have HC0 := Lib.hid h0
  have HALL := Lib.hid hall
  have hdl := distL_len hsys hp hall
  have HDL := Lib.hid hdl
  have HCL := Lib.hid (colL_len hdl)
  have hn4 := (sys_parts hsys).2.1
  have BX0 := Lib.hid (Bx.start w (.slice (some ⟨b, o, none⟩) N c) 51)
  clear hx ha hsys h0 hall hdl
  go_enter Try.func137, Try.ntmps137
  go_wp2_with fail
  refine (idist_any (p := 0) _ HX.out (HA.out.al _) hN HS.out (cell_al HC0.out _) hpos hp h2 HALL.out).mono ?_
  rintro e w1 ⟨A1, c1, rfl, own, bel⟩
  have hdl := HDL.out
  simp only [Int.ofNat_zero] at own hdl ⊢
  rw [hdl] at own ⊢
  obtain ⟨g1, rfl⟩ := own_shape own (by omega)
  have BX1 := Lib.hid (BX0.out.go bel)
  have OWN := Lib.hid (own_base own (base' := w.heap.size + 1) (by simp))
  clear own bel BX0 hdl
  go_wp2
  go_loopw [14] (fun i wr => ∃ k : Nat, k ≤ n ∧ i = .int .i64 k ∧ wr.ownsRow (w.heap.size + 1) 2 1 (.slice (some ⟨g1, 0, none⟩) n c1) n (ints ((colL xss n).take k ++ (distL xss n 0).drop k)) ∧ Bx w wr (.slice (some ⟨b, o, none⟩) N c) 51) (fun i _ => n - (intOf i).toNat)
  case atStart => exact ⟨0, Nat.zero_le _, rfl, by simpa using OWN.out, BX1.out⟩
  case round =>
    obtain ⟨k, hk, rfl, own, bx⟩ := hrel
    have OW := Lib.hid own
    have BX := Lib.hid bx
    clear own bx
    by_cases hlt : k < n
    · obtain ⟨d, hd, hdn⟩ := distL_at HS.out hp HALL.out hlt
      have hcx := own_cell OW.out (show (ints ((colL xss n).take k ++ (distL xss n 0).drop k))[k]? = some (.int .i64 d) by rw [ints, List.getElem?_map, mix_at HCL.out hlt]; simpa using congrArg (Option.map (Value.int .i64)) hd)
      have hfr := OW.out.frozenAt k
      have hglo := (OW.out.lt g1 rfl).1
      have O2 := Lib.hid (OW.out.stored k (.int .i64 ((d : Int) % 2))).1
      have HE := Lib.hid (mix_step (B := distL xss n 0) HCL.out HDL.out (colL_at hd))
      clear hd
      go_wp2
      go_roundw
      case rel => exact ⟨k + 1, by omega, by go_num, by have h := O2.out; rwa [ints_set, HE.out] at h, ⟨BX.out.bel.setCell (p := ⟨g1, k, none⟩) hglo _⟩⟩
      case measure => simp [intOf]; omega
    · have h := OW.out
      rw [List.take_of_length_le (by rw [HCL.out]; omega), List.drop_of_length_le (by have := HDL.out; simp only [Int.natCast_zero] at this; omega), List.append_nil] at h
      have OC := Lib.hid h
      have hbc0 := BX.out.cell
      clear h hk
      go_wp2
      clear hlt hbc0
      go_loopw [27] (fun i wr => ∃ j : Nat, j ≤ N ∧ i = .int .i64 j ∧ CMo xss n (colL xss n) j 0 ∧ wr.ownsRow (w.heap.size + 1) 2 1 (.slice (some ⟨g1, 0, none⟩) n c1) n (ints (colL xss n)) ∧ Bx w wr (.slice (some ⟨b, o, none⟩) N c) 51) (fun i _ => N - (intOf i).toNat)
      case atStart => exact ⟨0, Nat.zero_le _, rfl, ⟨by simp, fun _ _ f h => absurd h (by omega)⟩, OC.out, BX.out⟩
      case round =>
        obtain ⟨j, hj, rfl, ct, own, bx⟩ := hrel
        have CT := Lib.hid ct
        have OWF := Lib.hid own
        have BXF := Lib.hid bx
        clear ct own bx OC BX OW
        by_cases hjl : j < N
        · obtain ⟨b3, o3, A4, c4, gg, he, hg, hc, hrd, hms⟩ := (bx_rd BXF.out HA.out).row (k := j) (by rw [HX.out]; exact hjl)
          obtain ⟨rfl, rfl⟩ : b = b3 ∧ o = o3 := by simpa using he
          have hlg := sys_len HS.out hg
          obtain ⟨l, hl⟩ : ∃ l, gg.length = l := ⟨_, rfl⟩
          rw [hl] at hc hms hlg
          obtain rfl : n = l := by omega
          have HG := Lib.hid hg
          have HL := Lib.hid hl
          have HRD := Lib.hid hrd
          clear he hg hrd hl
          go_wp2
          clear hc
          obtain ⟨wo, rfl⟩ : ∃ wo : World, wo = wr := ⟨_, rfl⟩
          go_loopw [33] (fun v wi => ∃ f : Nat, f ≤ n ∧ v = .int .i64 f ∧ CMo xss n (colL xss n) j f ∧ wi.ownsRow (w.heap.size + 1) 2 1 (.slice (some ⟨g1, 0, none⟩) n c1) n (ints (colL xss n)) ∧ Bx w wi (.slice (some ⟨b, o, none⟩) N c) 51 ∧ Below wo.heap.size wo wi) (fun v _ => n - (intOf v).toNat)
          case atStart => exact ⟨0, Nat.zero_le _, rfl, CT.out, OWF.out, BXF.out, Below.refl _ _⟩
          case round =>
            obtain ⟨f, hf, rfl, ct2, own2, bx2, bel2⟩ := hrel
            have CT2 := Lib.hid ct2
            have OW2 := Lib.hid own2
            have BX2 := Lib.hid bx2
            have BE2 := Lib.hid bel2
            clear ct2 own2 bx2 bel2 CT OWF BXF
            by_cases hlt : f < n
            · obtain ⟨b4, o4, y, rfl, hgy, hcy⟩ := (HRD.out.keep BE2.out).int (k := f) (by rw [HL.out]; exact hlt)
              obtain ⟨q, rfl, hq0⟩ := sys_at HS.out HG.out hgy
              have hqn : q < n := by omega
              obtain ⟨d1, hd1, hd1n⟩ := distL_at HS.out hp HALL.out hqn
              obtain ⟨d2, hd2, hd2n⟩ := distL_at HS.out hp HALL.out hlt
              have hcq := own_cell OW2.out (show (ints (colL xss n))[q]? = some (.int .i64 ((d1 : Int) % 2)) by rw [ints, List.getElem?_map, colL_at hd1]; rfl)
              have hcf := own_cell OW2.out (show (ints (colL xss n))[f]? = some (.int .i64 ((d2 : Int) % 2)) by rw [ints, List.getElem?_map, colL_at hd2]; rfl)
              have F1 := Lib.hid (show fz (colL xss n) (fz gg f) = (d1 : Int) % 2 by rw [show fz gg f = (q : Int) from by simp [fz, hgy]]; exact fz_at (colL_at hd1))
              have F2 := Lib.hid (show fz (colL xss n) f = (d2 : Int) % 2 from fz_at (colL_at hd2))
              clear hgy hd1 hd2
              by_cases heq : (d2 : Int) % 2 = (d1 : Int) % 2
              · have hbe : (((d2 : Int) % 2) == ((d1 : Int) % 2)) = true := by rw [beq_iff_eq]; exact heq
                have HB := Lib.hid (colB_false (xss := xss) (n := n) fun h => h gg (List.mem_of_getElem? HG.out) f hlt (by rw [F1.out, F2.out]; exact heq.symm))
                clear heq
                go_wp2
                go_quiet (fail)
                go_wp2
                go_ret2
                exact retSB_no HB.out (BX2.out.drewN _).below
              · have hbe : (((d2 : Int) % 2) == ((d1 : Int) % 2)) = false := by rw [beq_eq_false_iff_ne]; exact heq
                have CT3 := Lib.hid (cmo_step CT2.out HG.out (by rw [F1.out, F2.out]; exact fun h => heq h.symm))
                clear heq
                go_wp2
                go_quiet (fail)
                have O3 := Lib.hid (own_below OW2.out (below_drewN (Below.refl _ _) nq) (Nat.le_refl _))
                go_wp2
                go_roundw
                case rel => exact ⟨f + 1, by omega, by go_num, CT3.out, O3.out, BX2.out.drewN _, below_drewN BE2.out _⟩
                case measure => simp [intOf]; omega
            · obtain rfl : f = n := by omega
              have CT3 := Lib.hid (cmo_next CT2.out HG.out)
              go_wp2
              go_roundw
              case rel => exact ⟨j + 1, by omega, by go_num, CT3.out, OW2.out, BX2.out⟩
              case measure => simp [intOf]; omega
        · have HB := Lib.hid (colB_true (cmo_all CT.out (by rw [HX.out]; omega)))
          go_wp2
          go_ret2
          exact retSB_yes HB.out HCL.out OWF.out (by omega) BXF.out.below
end Go.Proofs.Ytjkddoiacifhpaa
