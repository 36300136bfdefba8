import Derived.Test.YtckmmgepoccopaaFlw
import Derived.BigQuiet
namespace Go.Proofs.Ytckmmgepoccopaa
open Go.RowKit

theorem Rd.nil2 {w : World} {A : Option Addr} : Rd w A (ints []) := fun h => absurd h (by simp)
theorem cto_true {xss : List (List Int)} {C : List Int} {f k : Nat} {g : List Int} (hg : xss[k]? = some g) (hne : fz C (fz g f) ≠ fz C f) : pB (CTo xss C f (k + 1)) = pB (CTo xss C f k) := by
  refine Bool.eq_iff_iff.2 (pB_iff.trans (Iff.trans ⟨fun h => ⟨h.1, fun g' hg' => h.2 g' (by rw [List.take_add_one, hg]; exact List.mem_append.2 (.inl hg'))⟩, fun h => cto_step h hg hne⟩ pB_iff.symm))
theorem cto_false {xss : List (List Int)} {C : List Int} {f k : Nat} {g : List Int} (hg : xss[k]? = some g) (he : fz C (fz g f) = fz C f) : pB (CTo xss C f (k + 1)) = false :=
  pB_false fun h => h.2 g (by rw [List.take_add_one, hg]; exact List.mem_append.2 (.inr (by simp))) he
theorem cto_turn {xss : List (List Int)} {C : List Int} {f : Nat} : pB (CTo xss C f xss.length) = pB (CTo xss C (f + 1) 0) := by
  refine Bool.eq_iff_iff.2 (pB_iff.trans (Iff.trans ⟨fun h => cto_next h (Nat.le_refl _), fun h => ⟨fun f' hf => h.1 f' (by omega), fun g hg => h.1 f (by omega) g (List.mem_of_mem_take hg)⟩⟩ pB_iff.symm))
theorem cto_start {xss : List (List Int)} {C : List Int} : pB (CTo xss C 0 0) = true := pB_true ⟨fun f' h => absurd h (by omega), by simp⟩
theorem cto_end {xss : List (List Int)} {n : Nat}  : pB (CTo xss (colL xss n) n 0) = colB xss n := by
  cases h : colB xss n
  · refine pB_false fun h2 => ?_
    have := colB_true (cto_all h2)
    rw [h] at this
    cases this
  · have h1 : ColOk xss n (colL xss n) := (@of_decide_eq_true _ (Classical.propDecidable _) h)
    exact pB_true ⟨fun f hf g hg => h1 g hg f hf, by simp⟩

set_option maxHeartbeats 6400000 in
set_option maxRecDepth 100000 in
theorem law_FnColourings {A0 : Option Addr} {c0 n0 : Nat} {bs : List Value} (w : World) (hl : bs.length = n0) (hr : Rd w A0 bs) (hu : ∀ v ∈ bs, ∃ x : Nat, v = .int .u8 x ∧ x < 256) :
    Calls Try.prog 5 #[.slice A0 n0 c0] w fun e w' => e = .returned (.bool true) ∧ Below w.heap.size w w' := by
  have HL0 := Lib.hid hl
  have HR0 := Lib.hid hr
  have HU := Lib.hid hu
  have B0 := Lib.hid (Below.refl w.heap.size w)
  clear hl hr hu
  by_cases hbig : (4096 : Int) < (n0 : Int)
  · go_enter Try.func5, Try.ntmps5
    go_wp2_with fail
    refine (big_any w).mono ?_
    rintro e wz ⟨rfl, rfl⟩
    rw [decide_eq_true (show (4096 : Int) < (n0 : Int) by omega)]
    go_wp2
    go_ret
    exact ⟨rfl, B0.out⟩
  have hn0 : n0 ≤ 1048576 := by omega
  go_enter Try.func5, Try.ntmps5
  go_wp2_with fail
  refine (big_any w).mono ?_
  rintro e wz ⟨rfl, rfl⟩
  rw [decide_eq_false (show ¬ (4096 : Int) < (n0 : Int) by omega)]
  go_wp2_with fail
  refine (drawCol w HL0.out HR0.out HU.out hn0).mono ?_
  rintro e w1 ⟨A1, N, c1, xss, rfl, hx, hN6, hrr, hcap, hc63, hrd, bel1⟩
  have HX := Lib.hid hx
  have HA := Lib.hid hrd
  have HR := Lib.hid hrr
  have B1 := Lib.hid bel1
  have hN : N ≤ 1048576 := by omega
  have S1 := Lib.hid ((St.start w1).addBlk #[.slice A1 N c1] 26)
  have hx0 := hx
  clear hx hrd hrr bel1 B0 HR0
  cases ho : okMan xss
  · have e1 : coR xss = [] := by simp [coR, ho]
    have e2 : coC xss = 1 := by simp [coC, ho]
    have e3 : isoR xss = false := by simp [isoR, ho]
    have e4 : manC xss = 1 := by simp [manC, ho]
    have E1 := Lib.hid e1
    have E2 := Lib.hid e2
    have E3 := Lib.hid e3
    have E4 := Lib.hid e4
    clear ho e1 e2 e3 e4
    have hbx := (S1.out.blk (i := 0) rfl).cell (i := 0) rfl
    go_wp2_with fail
    refine (iColouringOf_any _ HX.out (HA.out.keep S1.out.below) hN HR.out).mono ?_
    rintro e w2 ⟨A2, c2, rfl, own, bel⟩
    rw [E1.out] at own
    rw [E1.out, E2.out]
    have S2 := Lib.hid (S1.out.addOwn bel own (Nat.le_refl _))
    clear bel hbx S1 own
    have hbx := (S2.out.blk (i := 0) rfl).cell (i := 0) rfl
    go_wp2_with fail
    refine (sColouringOf_any _ HX.out (HA.out.keep S2.out.below) hN HR.out).mono ?_
    rintro e w3 ⟨A3, c3, rfl, own, bel⟩
    rw [E1.out] at own
    rw [E1.out, E2.out]
    have S3 := Lib.hid (S2.out.addOwn bel own (Nat.le_refl _))
    clear bel hbx S2 own
    have hne : ((1 : Int) != 1) = false := rfl
    go_wp2_with fail
    refine (likeB (n := 0) (m := 0) (xs := []) (ys := []) _ rfl rfl Rd.nil2 Rd.nil2 (by omega)).mono ?_
    rintro e w4 ⟨rfl, bel⟩
    rw [decide_eq_true (show ([] : List Int) = [] from rfl)]
    have S4 := Lib.hid (S3.out.go bel)
    clear bel S3
    have hbx := (S4.out.blk (i := 0) rfl).cell (i := 0) rfl
    go_wp2_with fail
    refine (iIsOrientable_any _ HX.out (HA.out.keep S4.out.below) hN HR.out).mono ?_
    rintro e w5 ⟨rfl, bel⟩
    rw [E3.out, E4.out]
    have S5 := Lib.hid (S4.out.go bel)
    clear bel hbx S4
    go_wp2
    go_ret
    exact ⟨rfl, B1.out.trans (S5.out.below.mono B1.out.size)⟩
  · have hman := okMan_iff.1 ho
    have hsys := hman.sys
    have hn4 := hman.f4
    have hn2 := hman.f2
    have hpos := hman.pos hx0
    obtain ⟨b, o, A01, c01, rfl, hc0⟩ := man_row0 hman HA.out
    obtain ⟨n, hn⟩ : ∃ n, flN xss = n := ⟨_, rfl⟩
    rw [hn] at hc0 hsys hn4 hn2
    have hall : (orbL xss n ((0 : Nat) : Int)).length = n := by rw [← hn]; exact hman.all (by omega)
    have e1 : coR xss = colR xss n := by simp [coR, ho, hn]
    have e2 : coC xss = colC xss n := by simp [coC, ho, hn]
    have e3 : isoR xss = colB xss n := by simp [isoR, ho, hn]
    have e4 : manC xss = 0 := by simp [manC, ho]
    have e5 : dfR xss 0 = distL xss n 0 := by
      have : flagB n 0 = true := by simp [flagB]; omega
      simp [dfR, ho, hn, this]
    have e6 : dfC xss 0 = 0 := by
      have : flagB n 0 = true := by simp [flagB]; omega
      simp [dfC, ho, hn, this]
    have hdl : (distL xss n 0).length = n := distL_len hsys (p := 0) (by omega) hall
    have hdat : ∀ y : Nat, y < n → ∃ d : Nat, (distL xss n 0)[y]? = some (d : Int) ∧ d < n := fun y hy => distL_at hsys (p := 0) (by omega) hall hy
    have HC0 := Lib.hid hc0
    have HS := Lib.hid hsys
    have HDL := Lib.hid hdl
    have HDA := Lib.hid hdat
    have HCL := Lib.hid (colL_len hdl)
    have E1 := Lib.hid e1
    have E2 := Lib.hid e2
    have E3 := Lib.hid e3
    have E4 := Lib.hid e4
    have E5 := Lib.hid e5
    have E6 := Lib.hid e6
    have HEND := Lib.hid (cto_end (xss := xss) (n := n))
    clear ho hman hsys hc0 hall hdl hdat e1 e2 e3 e4 e5 e6 hn hx0
    cases hv : colB xss n
    · have e7 : colR xss n = [] := by simp [colR, hv]
      have e8 : colC xss n = 5 := by simp [colC, hv]
      have E7 := Lib.hid e7
      have E8 := Lib.hid e8
      have HV := Lib.hid hv
      clear e7 e8 hv
      have hbx := (S1.out.blk (i := 0) rfl).cell (i := 0) rfl
      go_wp2_with fail
      refine (iColouringOf_any _ HX.out (HA.out.keep S1.out.below) hN HR.out).mono ?_
      rintro e w2 ⟨A2, c2, rfl, own, bel⟩
      rw [E1.out, E7.out] at own
      rw [E1.out, E2.out, E7.out, E8.out]
      have S2 := Lib.hid (S1.out.addOwn bel own (Nat.le_refl _))
      clear bel hbx S1 own
      have hbx := (S2.out.blk (i := 0) rfl).cell (i := 0) rfl
      go_wp2_with fail
      refine (sColouringOf_any _ HX.out (HA.out.keep S2.out.below) hN HR.out).mono ?_
      rintro e w3 ⟨A3, c3, rfl, own, bel⟩
      rw [E1.out, E7.out] at own
      rw [E1.out, E2.out, E7.out, E8.out]
      have S3 := Lib.hid (S2.out.addOwn bel own (Nat.le_refl _))
      clear bel hbx S2 own
      have hne : ((5 : Int) != 5) = false := rfl
      go_wp2_with fail
      refine (likeB (n := 0) (m := 0) (xs := []) (ys := []) _ rfl rfl Rd.nil2 Rd.nil2 (by omega)).mono ?_
      rintro e w4 ⟨rfl, bel⟩
      rw [decide_eq_true (show ([] : List Int) = [] from rfl)]
      have S4 := Lib.hid (S3.out.go bel)
      clear bel S3
      have hbx := (S4.out.blk (i := 0) rfl).cell (i := 0) rfl
      go_wp2_with fail
      refine (iIsOrientable_any _ HX.out (HA.out.keep S4.out.below) hN HR.out).mono ?_
      rintro e w5 ⟨rfl, bel⟩
      rw [E3.out, E4.out, HV.out]
      have S5 := Lib.hid (S4.out.go bel)
      clear bel hbx S4
      have hbx := (S5.out.blk (i := 0) rfl).cell (i := 0) rfl
      go_wp2_with fail
      refine (iDistancesFrom_any 0 _ HX.out (HA.out.keep S5.out.below) hN HR.out).mono ?_
      rintro e w6 ⟨A6, c6, rfl, own, bel⟩
      rw [E5.out, HDL.out] at own
      rw [E5.out, E6.out, HDL.out]
      have S6 := Lib.hid (S5.out.addOwn bel own (Nat.le_refl _))
      clear bel hbx S5 own
      have hbx := (S6.out.blk (i := 0) rfl).cell (i := 0) rfl
      go_wp2_with fail
      refine (flags5_any (n := n) (c0 := c01) (A0 := A01) _ hpos (cell_be HC0.out S6.out.below)).mono ?_
      rintro e w7 ⟨rfl, bel⟩
      have S7 := Lib.hid (S6.out.go bel)
      clear bel hbx S6
      have hnn : ((n : Int) != (n : Int)) = false := by simp
      go_wp2
      go_loopw [12, 13] (fun u v wr => ∃ f : Nat, f ≤ n ∧ u = .bool (pB (CTo xss (colL xss n) f 0)) ∧ v = .int .i64 f ∧ St w1 wr [.blk w1.heap.size #[.slice (some ⟨b, o, none⟩) N c1] 26, .own 2 A2 0 c2 (ints []), .own 2 A3 0 c3 (ints []), .own 2 A6 n c6 (ints (distL xss n 0))]) (fun _ v _ => n - (intOf v).toNat)
      case atStart => exact ⟨0, Nat.zero_le _, by rw [cto_start], rfl, S7.out⟩
      case round =>
        obtain ⟨f, hf, rfl, rfl, st⟩ := hrel
        clear S7 hnn hne
        by_cases hfn : f < n
        · have fI : (f : Int) < (n : Int) := by omega
          have S8 := Lib.hid st
          clear st
          go_wp2
          go_loopw [12, 14] (fun u v wr => ∃ k : Nat, k ≤ N ∧ u = .bool (pB (CTo xss (colL xss n) f k)) ∧ v = .int .i64 k ∧ St w1 wr [.blk w1.heap.size #[.slice (some ⟨b, o, none⟩) N c1] 26, .own 2 A2 0 c2 (ints []), .own 2 A3 0 c3 (ints []), .own 2 A6 n c6 (ints (distL xss n 0))]) (fun _ v _ => N - (intOf v).toNat)
          case atStart => exact ⟨0, Nat.zero_le _, rfl, rfl, S8.out⟩
          case round =>
            obtain ⟨k, hk, rfl, rfl, st⟩ := hrel
            clear S8
            have hbx := (st.blk (i := 0) rfl).cell (i := 0) rfl
            by_cases hkN : k < N
            · have kI : (k : Int) < (N : Int) := by omega
              obtain ⟨b3, o3, A4, c4, g, he, hg, hcg, hrg, _⟩ := (HA.out.keep st.below).row (k := k) (by rw [HX.out]; exact hkN)
              obtain ⟨rfl, rfl⟩ : b = b3 ∧ o = o3 := by simpa using he
              have hgl := sys_len HS.out hg
              obtain ⟨l, hl⟩ : ∃ l, g.length = l := ⟨_, rfl⟩
              have hln : l = n := by omega
              subst hln
              rw [hl] at hcg
              obtain ⟨b4, o4, y, rfl, hgy, hcy⟩ := hrg.int (k := f) (by omega)
              obtain ⟨y, rfl, hy0⟩ := sys_at HS.out hg hgy
              have hyn : y < l := by omega
              have yI : (y : Int) < (l : Int) := hy0
              obtain ⟨gD, rfl⟩ := own_shape (st.own (i := 3) rfl) (show 0 < l by omega)
              obtain ⟨d1, hd1, hd1n⟩ := HDA.out f hfn
              obtain ⟨d2, hd2, hd2n⟩ := HDA.out y hyn
              have cd1 := own_cell (st.own (i := 3) rfl) (show (ints (distL xss l 0))[f]? = some (.int .i64 (d1 : Int)) by simp [hd1])
              have cd2 := own_cell (st.own (i := 3) rfl) (show (ints (distL xss l 0))[y]? = some (.int .i64 (d2 : Int)) by simp [hd2])
              have q1 := colL_at hd1
              have q2 := colL_at hd2
              obtain ⟨s, hs⟩ : ∃ s, d1 + 1 + d2 = s := ⟨_, rfl⟩
              have sI : (d1 : Int) + 1 + (d2 : Int) = (s : Int) := by omega
              have k1 : IntKind.i64.wrap ((d1 : Int) + 1) = (d1 : Int) + 1 := IntWalk.i64_in _ (by omega)
              have k2 : IntKind.i64.wrap ((d1 : Int) + 1 + (d2 : Int)) = (s : Int) := (IntWalk.i64_in _ (by omega)).trans sI
              have k3 : IntKind.i64.wrap (s : Int) = (s : Int) := IntWalk.i64_in _ (by omega)
              by_cases hpar : s % 2 = 0
              · have m1 : (s : Int).tmod 2 = 0 := by rw [Int.tmod_eq_emod_of_nonneg (by omega)]; omega
                have m2 : (s : Int) % 2 = 0 := by omega
                have HT := Lib.hid (cto_true (C := colL xss l) hg (f := f) (by rw [fz_at hgy, fz_at q1, fz_at q2]; omega))
                have S9 := Lib.hid st
                clear st hg hgy hd1 hd2 q1 q2 hs hrg he hl
                go_wp2
                go_quiet (fail)
                go_wp2
                go_quiet (fail)
                go_wp2
                go_roundw
                case rel => exact ⟨k + 1, by omega, by rw [HT.out], by go_num, S9.out.go (below_drewN (Below.refl _ _) _)⟩
                case measure => simp [intOf]; omega
              · have m1 : (s : Int).tmod 2 = 1 := by rw [Int.tmod_eq_emod_of_nonneg (by omega)]; omega
                have m2 : (s : Int) % 2 = 1 := by omega
                have HT := Lib.hid (cto_false (C := colL xss l) hg (f := f) (by rw [fz_at hgy, fz_at q1, fz_at q2]; omega))
                have S9 := Lib.hid st
                clear st hg hgy hd1 hd2 q1 q2 hs hrg he hl
                go_wp2
                go_quiet (fail)
                go_wp2
                go_quiet (fail)
                go_wp2
                go_roundw
                case rel => exact ⟨k + 1, by omega, by rw [HT.out], by go_num, S9.out.go (below_drewN (Below.refl _ _) _)⟩
                case measure => simp [intOf]; omega
            · obtain rfl : k = N := by omega
              have HT := Lib.hid (cto_turn (xss := xss) (C := colL xss n) (f := f))
              rw [HX.out] at HT
              have S8 := Lib.hid st
              clear st
              go_wp2
              go_roundw
              case rel => exact ⟨f + 1, by omega, by rw [HT.out], by go_num, S8.out⟩
              case measure => simp [intOf]; omega
        · obtain rfl : f = n := by omega
          have S8 := Lib.hid st
          rw [HEND.out, HV.out]
          clear st
          go_wp2
          go_ret
          exact ⟨rfl, B1.out.trans (S8.out.below.mono B1.out.size)⟩

    · have e7 : colR xss n = colL xss n := by simp [colR, hv]
      have e8 : colC xss n = 0 := by simp [colC, hv]
      have hok : ColOk xss n (colL xss n) := @of_decide_eq_true _ (Classical.propDecidable _) hv
      have E7 := Lib.hid e7
      have E8 := Lib.hid e8
      have HV := Lib.hid hv
      have HOK := Lib.hid hok
      clear e7 e8 hv hok
      have hbx := (S1.out.blk (i := 0) rfl).cell (i := 0) rfl
      go_wp2_with fail
      refine (iColouringOf_any _ HX.out (HA.out.keep S1.out.below) hN HR.out).mono ?_
      rintro e w2 ⟨A2, c2, rfl, own, bel⟩
      rw [E1.out, E7.out, HCL.out] at own
      rw [E1.out, E2.out, E7.out, E8.out, HCL.out]
      have S2 := Lib.hid (S1.out.addOwn bel own (Nat.le_refl _))
      clear bel hbx S1 own
      have hbx := (S2.out.blk (i := 0) rfl).cell (i := 0) rfl
      go_wp2_with fail
      refine (sColouringOf_any _ HX.out (HA.out.keep S2.out.below) hN HR.out).mono ?_
      rintro e w3 ⟨A3, c3, rfl, own, bel⟩
      rw [E1.out, E7.out, HCL.out] at own
      rw [E1.out, E2.out, E7.out, E8.out, HCL.out]
      have S3 := Lib.hid (S2.out.addOwn bel own (Nat.le_refl _))
      clear bel hbx S2 own
      have hne : ((0 : Int) != 0) = false := rfl
      have RA := Lib.hid (own_rd (S3.out.own (i := 1) rfl))
      have RB := Lib.hid (own_rd (S3.out.own (i := 2) rfl))
      go_wp2_with fail
      refine (likeB (n := n) (m := n) _ HCL.out HCL.out RA.out RB.out (by omega)).mono ?_
      rintro e w4 ⟨rfl, bel⟩
      rw [decide_eq_true rfl]
      have S4 := Lib.hid (S3.out.go bel)
      clear bel S3 RA RB
      have hbx := (S4.out.blk (i := 0) rfl).cell (i := 0) rfl
      go_wp2_with fail
      refine (iIsOrientable_any _ HX.out (HA.out.keep S4.out.below) hN HR.out).mono ?_
      rintro e w5 ⟨rfl, bel⟩
      rw [E3.out, E4.out, HV.out]
      have S5 := Lib.hid (S4.out.go bel)
      clear bel hbx S4
      have hbx := (S5.out.blk (i := 0) rfl).cell (i := 0) rfl
      go_wp2_with fail
      refine (iDistancesFrom_any 0 _ HX.out (HA.out.keep S5.out.below) hN HR.out).mono ?_
      rintro e w6 ⟨A6, c6, rfl, own, bel⟩
      rw [E5.out, HDL.out] at own
      rw [E5.out, E6.out, HDL.out]
      have S6 := Lib.hid (S5.out.addOwn bel own (Nat.le_refl _))
      clear bel hbx S5 own
      have hbx := (S6.out.blk (i := 0) rfl).cell (i := 0) rfl
      go_wp2_with fail
      refine (flags5_any (n := n) (c0 := c01) (A0 := A01) _ hpos (cell_be HC0.out S6.out.below)).mono ?_
      rintro e w7 ⟨rfl, bel⟩
      have S7 := Lib.hid (S6.out.go bel)
      clear bel hbx S6
      have hnn : ((n : Int) != (n : Int)) = false := by simp
      go_wp2
      go_loopw [12, 13] (fun u v wr => ∃ f : Nat, f ≤ n ∧ u = .bool (pB (CTo xss (colL xss n) f 0)) ∧ v = .int .i64 f ∧ St w1 wr [.blk w1.heap.size #[.slice (some ⟨b, o, none⟩) N c1] 26, .own 2 A2 n c2 (ints (colL xss n)), .own 2 A3 n c3 (ints (colL xss n)), .own 2 A6 n c6 (ints (distL xss n 0))]) (fun _ v _ => n - (intOf v).toNat)
      case atStart => exact ⟨0, Nat.zero_le _, by rw [cto_start], rfl, S7.out⟩
      case round =>
        obtain ⟨f, hf, rfl, rfl, st⟩ := hrel
        clear S7 hnn hne
        by_cases hfn : f < n
        · have fI : (f : Int) < (n : Int) := by omega
          have S8 := Lib.hid st
          clear st
          go_wp2
          go_loopw [12, 14] (fun u v wr => ∃ k : Nat, k ≤ N ∧ u = .bool (pB (CTo xss (colL xss n) f k)) ∧ v = .int .i64 k ∧ St w1 wr [.blk w1.heap.size #[.slice (some ⟨b, o, none⟩) N c1] 26, .own 2 A2 n c2 (ints (colL xss n)), .own 2 A3 n c3 (ints (colL xss n)), .own 2 A6 n c6 (ints (distL xss n 0))]) (fun _ v _ => N - (intOf v).toNat)
          case atStart => exact ⟨0, Nat.zero_le _, rfl, rfl, S8.out⟩
          case round =>
            obtain ⟨k, hk, rfl, rfl, st⟩ := hrel
            clear S8
            have hbx := (st.blk (i := 0) rfl).cell (i := 0) rfl
            by_cases hkN : k < N
            · have kI : (k : Int) < (N : Int) := by omega
              obtain ⟨b3, o3, A4, c4, g, he, hg, hcg, hrg, _⟩ := (HA.out.keep st.below).row (k := k) (by rw [HX.out]; exact hkN)
              obtain ⟨rfl, rfl⟩ : b = b3 ∧ o = o3 := by simpa using he
              have hgl := sys_len HS.out hg
              obtain ⟨l, hl⟩ : ∃ l, g.length = l := ⟨_, rfl⟩
              have hln : l = n := by omega
              subst hln
              rw [hl] at hcg
              obtain ⟨b4, o4, y, rfl, hgy, hcy⟩ := hrg.int (k := f) (by omega)
              obtain ⟨y, rfl, hy0⟩ := sys_at HS.out hg hgy
              have hyn : y < l := by omega
              have yI : (y : Int) < (l : Int) := hy0
              obtain ⟨gD, rfl⟩ := own_shape (st.own (i := 3) rfl) (show 0 < l by omega)
              obtain ⟨d1, hd1, hd1n⟩ := HDA.out f hfn
              obtain ⟨d2, hd2, hd2n⟩ := HDA.out y hyn
              have cd1 := own_cell (st.own (i := 3) rfl) (show (ints (distL xss l 0))[f]? = some (.int .i64 (d1 : Int)) by simp [hd1])
              have cd2 := own_cell (st.own (i := 3) rfl) (show (ints (distL xss l 0))[y]? = some (.int .i64 (d2 : Int)) by simp [hd2])
              have q1 := colL_at hd1
              have q2 := colL_at hd2
              obtain ⟨s, hs⟩ : ∃ s, d1 + 1 + d2 = s := ⟨_, rfl⟩
              have sI : (d1 : Int) + 1 + (d2 : Int) = (s : Int) := by omega
              have k1 : IntKind.i64.wrap ((d1 : Int) + 1) = (d1 : Int) + 1 := IntWalk.i64_in _ (by omega)
              have k2 : IntKind.i64.wrap ((d1 : Int) + 1 + (d2 : Int)) = (s : Int) := (IntWalk.i64_in _ (by omega)).trans sI
              have k3 : IntKind.i64.wrap (s : Int) = (s : Int) := IntWalk.i64_in _ (by omega)
              obtain ⟨gC, rfl⟩ := own_shape (st.own (i := 1) rfl) (show 0 < l by omega)
              have cc1 := own_cell (st.own (i := 1) rfl) (show (ints (colL xss l))[f]? = some (.int .i64 ((d1 : Int) % 2)) by simp [q1])
              have cc2 := own_cell (st.own (i := 1) rfl) (show (ints (colL xss l))[y]? = some (.int .i64 ((d2 : Int) % 2)) by simp [q2])
              have hneq := HOK.out g (List.mem_of_getElem? hg) f hfn
              rw [fz_at hgy, fz_at q1, fz_at q2] at hneq
              have hcb : ((d1 : Int) % 2 == (d2 : Int) % 2) = false := by rw [beq_eq_false_iff_ne]; exact fun h => hneq h.symm
              have hpar : s % 2 = 0 := by omega
              have m1 : (s : Int).tmod 2 = 0 := by rw [Int.tmod_eq_emod_of_nonneg (by omega)]; omega
              have m2 : (s : Int) % 2 = 0 := by omega
              have HT := Lib.hid (cto_true (C := colL xss l) hg (f := f) (by rw [fz_at hgy, fz_at q1, fz_at q2]; omega))
              have S9 := Lib.hid st
              clear st hg hgy hd1 hd2 q1 q2 hs hrg he hl
              go_wp2
              go_quiet (fail)
              go_wp2
              go_quiet (fail)
              go_wp2
              go_roundw
              case rel => exact ⟨k + 1, by omega, by rw [HT.out], by go_num, S9.out.go (below_drewN (Below.refl _ _) _)⟩
              case measure => simp [intOf]; omega
            · obtain rfl : k = N := by omega
              have HT := Lib.hid (cto_turn (xss := xss) (C := colL xss n) (f := f))
              rw [HX.out] at HT
              have S8 := Lib.hid st
              clear st
              go_wp2
              go_roundw
              case rel => exact ⟨f + 1, by omega, by rw [HT.out], by go_num, S8.out⟩
              case measure => simp [intOf]; omega
        · obtain rfl : f = n := by omega
          have S8 := Lib.hid st
          rw [HEND.out, HV.out]
          clear st
          go_wp2
          go_ret
          exact ⟨rfl, B1.out.trans (S8.out.below.mono B1.out.size)⟩
theorem walk_FnColourings (a0 : Option Addr) (len0 cap0 : Nat) (z0 : List Int) (w : World) (w0 : IsRow .u8 w a0 len0 cap0 z0) :
    Calls Try.prog 5 #[.slice a0 len0 cap0] w fun e w' => e = .returned (.bool true) ∧ Below w.heap.size w w' := by
  obtain ⟨bs, h1, h2, h3⟩ := isRow_u8 w0
  exact law_FnColourings w h1 h2 h3
end Go.Proofs.Ytckmmgepoccopaa
