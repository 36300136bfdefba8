import Derived.Test.YtckmmgepoccopaaFl3
import Derived.Test.YtckmmgepoccopaaPth
import Derived.BigQuiet
namespace Go.Proofs.Ytckmmgepoccopaa
open Go.RowKit

theorem Rd.nil3 {w : World} {A : Option Addr} : Rd w A (ints []) := fun h => absurd h (by simp)

set_option maxHeartbeats 6400000 in
set_option maxRecDepth 100000 in
theorem law_FnPaths {A0 : Option Addr} {c0 n0 : Nat} {bs : List Value} (w : World) (hl : bs.length = n0) (hr : Rd w A0 bs) (hu : ∀ v ∈ bs, ∃ x : Nat, v = .int .u8 x ∧ x < 256) :
    Calls Try.prog 4 #[.slice A0 n0 c0] w fun e w' => e = .returned (.bool true) ∧ Below w.heap.size w w' := by
  have HL0 := Lib.hid hl
  have HR0 := Lib.hid hr
  have HU := Lib.hid hu
  have B0 := Lib.hid (Below.refl w.heap.size w)
  clear hl hr hu
  by_cases hbig : (4096 : Int) < (n0 : Int)
  · go_enter Try.func4, Try.ntmps4
    go_wp2_with fail
    refine (big_any w).mono ?_
    rintro e wz ⟨rfl, rfl⟩
    rw [decide_eq_true (show (4096 : Int) < (n0 : Int) by omega)]
    go_wp2
    go_ret
    exact ⟨rfl, B0.out⟩
  have hn0 : n0 ≤ 1048576 := by omega
  go_enter Try.func4, Try.ntmps4
  go_wp2_with fail
  refine (big_any w).mono ?_
  rintro e wz ⟨rfl, rfl⟩
  rw [decide_eq_false (show ¬ (4096 : Int) < (n0 : Int) by omega)]
  go_wp2_with fail
  refine (drawFW w HL0.out HR0.out HU.out hn0).mono ?_
  rintro e w1 ⟨A1, N, c1, xss, k1, k2, rfl, hx, hN6, hrr, hcap, hc63, hrd, bel1⟩
  have HX := Lib.hid hx
  have HA := Lib.hid hrd
  have HR := Lib.hid hrr
  have B1 := Lib.hid bel1
  have hN : N ≤ 1048576 := by omega
  have S1 := Lib.hid ((St.start w1).addBlk #[.slice A1 N c1] 26)
  have hx0 := hx
  clear hx hrd hrr bel1 B0 HR0
  cases ho : okMan xss
  · have e1 : fwR xss k1 k2 = [] := by simp [fwR, ho]
    have e4 : fwC xss k1 k2 = 1 := by simp [fwC, ho]
    have E1 := Lib.hid e1
    have E4 := Lib.hid e4
    clear ho e1 e4 hx0
    have hbx := (S1.out.blk (i := 0) rfl).cell (i := 0) rfl
    go_wp2_with fail
    refine (iFirstWord_any k1 k2 _ HX.out (HA.out.keep S1.out.below) hN HR.out).mono ?_
    rintro e w2 ⟨A2, c2, rfl, own, bel⟩
    rw [E1.out] at own
    rw [E1.out, E4.out]
    have S2 := Lib.hid (S1.out.addOwn bel own (Nat.le_refl _))
    clear bel hbx S1 own
    have hbx := (S2.out.blk (i := 0) rfl).cell (i := 0) rfl
    go_wp2_with fail
    refine (sFirstWord_any k1 k2 _ HX.out (HA.out.keep S2.out.below) hN HR.out).mono ?_
    rintro e w3 ⟨A3, c3, rfl, own, bel⟩
    rw [E1.out] at own
    rw [E1.out, E4.out]
    have S3 := Lib.hid (S2.out.addOwn bel own (Nat.le_refl _))
    clear bel hbx S2 own
    have hne : ((1 : Int) != 1) = false := rfl
    go_wp2_with fail
    refine (likeB (n := 0) (m := 0) (xs := []) (ys := []) _ rfl rfl Rd.nil3 Rd.nil3 (by omega)).mono ?_
    rintro e w4 ⟨rfl, bel⟩
    rw [decide_eq_true (show ([] : List Int) = [] from rfl)]
    have S4 := Lib.hid (S3.out.go bel)
    clear bel S3
    go_wp2
    go_ret
    exact ⟨rfl, B1.out.trans (S4.out.below.mono B1.out.size)⟩
  · by_cases hfl : ¬ (flagB (flN xss) k1 = true ∧ flagB (flN xss) k2 = true)
    · have e1 : fwR xss k1 k2 = [] := by
        cases h1 : flagB (flN xss) k1 <;> cases h2 : flagB (flN xss) k2 <;> simp [fwR, ho, h1, h2]
        exact absurd ⟨h1, h2⟩ hfl
      have e4 : fwC xss k1 k2 = 2 := by
        cases h1 : flagB (flN xss) k1 <;> cases h2 : flagB (flN xss) k2 <;> simp [fwC, ho, h1, h2]
        exact absurd ⟨h1, h2⟩ hfl
      have E1 := Lib.hid e1
      have E4 := Lib.hid e4
      clear ho e1 e4 hx0 hfl
      have hbx := (S1.out.blk (i := 0) rfl).cell (i := 0) rfl
      go_wp2_with fail
      refine (iFirstWord_any k1 k2 _ HX.out (HA.out.keep S1.out.below) hN HR.out).mono ?_
      rintro e w2 ⟨A2, c2, rfl, own, bel⟩
      rw [E1.out] at own
      rw [E1.out, E4.out]
      have S2 := Lib.hid (S1.out.addOwn bel own (Nat.le_refl _))
      clear bel hbx S1 own
      have hbx := (S2.out.blk (i := 0) rfl).cell (i := 0) rfl
      go_wp2_with fail
      refine (sFirstWord_any k1 k2 _ HX.out (HA.out.keep S2.out.below) hN HR.out).mono ?_
      rintro e w3 ⟨A3, c3, rfl, own, bel⟩
      rw [E1.out] at own
      rw [E1.out, E4.out]
      have S3 := Lib.hid (S2.out.addOwn bel own (Nat.le_refl _))
      clear bel hbx S2 own
      have hne : ((2 : Int) != 2) = false := rfl
      go_wp2_with fail
      refine (likeB (n := 0) (m := 0) (xs := []) (ys := []) _ rfl rfl Rd.nil3 Rd.nil3 (by omega)).mono ?_
      rintro e w4 ⟨rfl, bel⟩
      rw [decide_eq_true (show ([] : List Int) = [] from rfl)]
      have S4 := Lib.hid (S3.out.go bel)
      clear bel S3
      go_wp2
      go_ret
      exact ⟨rfl, B1.out.trans (S4.out.below.mono B1.out.size)⟩
    · have hfl := Classical.not_not.1 hfl
      obtain ⟨p, rfl, hp⟩ := flagB_true hfl.1
      obtain ⟨q, rfl, hq⟩ := flagB_true hfl.2
      have hman := okMan_iff.1 ho
      have hsys := hman.sys
      have hn4 := hman.f4
      have hn2 := hman.f2
      have hpos := hman.pos hx0
      obtain ⟨b, o, A01, c01, rfl, hc0⟩ := man_row0 hman HA.out
      have hallp := hman.all hp
      have hallq := hman.all hq
      have hall0 := hman.all (show 0 < flN xss by omega)
      have e5 : dfR xss (p : Int) = distL xss (flN xss) p := by simp [dfR, ho, hfl.1]
      have e6 : dfC xss (p : Int) = 0 := by simp [dfC, ho, hfl.1]
      have e1 : fwR xss (p : Int) (q : Int) = fwRes xss (distL xss (flN xss) q) p := by simp [fwR, ho, hfl.1, hfl.2]
      have e4 : fwC xss (p : Int) (q : Int) = fwCode (distL xss (flN xss) q) p := by simp [fwC, ho, hfl.1, hfl.2]
      have e7 : diR xss = diaTo xss (flN xss) (flN xss) := by simp [diR, ho]
      have e8 : manC xss = 0 := by simp [manC, ho]
      have e9 : ∀ l, runR xss (p : Int) l = appR (flN xss) xss l p ∧ runC xss (p : Int) l = appC (flN xss) xss l p := fun l => by simp [runR, runC, ho]
      have hfree : ∀ g ∈ xss, freeP g = true := fun g hg => (hman.row g hg).2.2
      obtain ⟨n, hn⟩ : ∃ n, flN xss = n := ⟨_, rfl⟩
      rw [hn] at hc0 hsys hn4 hn2 hp hq hallp hallq hall0 e1 e4 e5 e7
      rw [hn] at e9
      have hdp := dfar_of hsys hp hallp hfree
      have hdq := dfar_of hsys hq hallq hfree
      have hsy := dist_symm hsys hfree hp hq hallp hallq
      obtain ⟨D, hD⟩ : ∃ D, distL xss n p = D := ⟨_, rfl⟩
      obtain ⟨e, hDq, hen⟩ := distL_at hsys hp hallp hq
      have hdia : (e : Int) ≤ diaTo xss n n := Int.le_trans (mxL_le hDq) (dia_le hp)
      have hself := hdp.self
      rw [fz_at hDq] at hsy
      rw [hD] at e5 hdp hDq hself
      have hgap : ∀ (f : Nat) (g : List Int) (y : Nat), f < n → g ∈ xss → fz g f = (y : Int) → -1 ≤ fz D f - fz D y ∧ fz D f - fz D y ≤ 1 := fun f g y hf hg hz => far_gap hdp hsys hfree hg hf hz
      have hdat := hdp.at_
      have HS := Lib.hid hsys
      have HC0 := Lib.hid hc0
      have HDL := Lib.hid hdp.len
      have HDA := Lib.hid hdat
      have HGP := Lib.hid hgap
      have HDQ := Lib.hid hDq
      have HSF := Lib.hid hself
      have HDI := Lib.hid hdia
      have E5 := Lib.hid e5
      have E6 := Lib.hid e6
      have E7 := Lib.hid e7
      have E8 := Lib.hid e8
      by_cases hmax : (64 : Int) < (e : Int)
      · have e1' : fwRes xss (distL xss n q) p = [] := by unfold fwRes; rw [← hsy, if_pos hmax]
        have e4' : fwCode (distL xss n q) p = 3 := by unfold fwCode; rw [← hsy, if_pos hmax]
        rw [e1'] at e1
        rw [e4'] at e4
        have E1 := Lib.hid e1
        have E4 := Lib.hid e4
        clear ho hman hsys hc0 hallp hallq hall0 e1 e4 e5 e6 e7 e8 e9 e1' e4' hn hx0 hfl hfree hdp hdq hsy hD hDq hself hgap hdat hdia
        have hbx := (S1.out.blk (i := 0) rfl).cell (i := 0) rfl
        go_wp2_with fail
        refine (iFirstWord_any (p : Int) (q : Int) _ HX.out (HA.out.keep S1.out.below) hN HR.out).mono ?_
        rintro e w2 ⟨A2, c2, rfl, own, bel⟩
        rw [E1.out] at own
        rw [E1.out, E4.out]
        have S2 := Lib.hid (S1.out.addOwn bel own (Nat.le_refl _))
        clear bel hbx S1 own
        have hbx := (S2.out.blk (i := 0) rfl).cell (i := 0) rfl
        go_wp2_with fail
        refine (sFirstWord_any (p : Int) (q : Int) _ HX.out (HA.out.keep S2.out.below) hN HR.out).mono ?_
        rintro e w3 ⟨A3, c3, rfl, own, bel⟩
        rw [E1.out] at own
        rw [E1.out, E4.out]
        have S3 := Lib.hid (S2.out.addOwn bel own (Nat.le_refl _))
        clear bel hbx S2 own
        have hne : ((3 : Int) != 3) = false := rfl
        go_wp2_with fail
        refine (likeB (n := 0) (m := 0) (xs := []) (ys := []) _ rfl rfl Rd.nil3 Rd.nil3 (by omega)).mono ?_
        rintro e w4 ⟨rfl, bel⟩
        rw [decide_eq_true (show ([] : List Int) = [] from rfl)]
        have S4 := Lib.hid (S3.out.go bel)
        clear bel S3
        have hbx := (S4.out.blk (i := 0) rfl).cell (i := 0) rfl
        go_wp2_with fail
        refine (iDistancesFrom_any (p : Int) _ HX.out (HA.out.keep S4.out.below) hN HR.out).mono ?_
        rintro e w6 ⟨A6, c6, rfl, own, bel⟩
        rw [E5.out, HDL.out] at own
        rw [E5.out, E6.out, HDL.out]
        have S5 := Lib.hid (S4.out.addOwn bel own (Nat.le_refl _))
        clear bel hbx S4 own
        obtain ⟨gD, rfl⟩ := own_shape (S5.out.own (i := 3) rfl) (show 0 < n by omega)
        have cself := own_cell (S5.out.own (i := 3) rfl) (show (ints D)[p]? = some (.int .i64 0) by simp [HSF.out])
        have pI : (p : Int) < (n : Int) := by omega
        have hbx := (S5.out.blk (i := 0) rfl).cell (i := 0) rfl
        go_wp2_with fail
        refine (flags5_any (n := n) (c0 := c01) (A0 := A01) _ hpos (cell_be HC0.out S5.out.below)).mono ?_
        rintro e w7 ⟨rfl, bel⟩
        have S6 := Lib.hid (S5.out.go bel)
        clear bel hbx S5 cself
        have cself := own_cell (S6.out.own (i := 3) rfl) (show (ints D)[p]? = some (.int .i64 0) by simp [HSF.out])
        have hnn : ((n : Int) != (n : Int)) = false := by simp
        go_wp2
        go_loopw [12] (fun v wr => ∃ f : Nat, f ≤ n ∧ v = .int .i64 f ∧ St w1 wr [.blk w1.heap.size #[.slice (some ⟨b, o, none⟩) N c1] 26, .own 2 A2 0 c2 (ints []), .own 2 A3 0 c3 (ints []), .own 2 (some ⟨gD, 0, none⟩) n c6 (ints D)]) (fun v _ => n - (intOf v).toNat)
        case atStart => exact ⟨0, Nat.zero_le _, rfl, S6.out⟩
        case round =>
          obtain ⟨f, hf, rfl, st⟩ := hrel
          clear S6 hnn hne cself
          by_cases hfn : f < n
          · have fI : (f : Int) < (n : Int) := by omega
            have S8 := Lib.hid st
            clear st
            go_wp2
            go_loopw [13] (fun v wr => ∃ k : Nat, k ≤ N ∧ v = .int .i64 k ∧ St w1 wr [.blk w1.heap.size #[.slice (some ⟨b, o, none⟩) N c1] 26, .own 2 A2 0 c2 (ints []), .own 2 A3 0 c3 (ints []), .own 2 (some ⟨gD, 0, none⟩) n c6 (ints D)]) (fun v _ => N - (intOf v).toNat)
            case atStart => exact ⟨0, Nat.zero_le _, rfl, S8.out⟩
            case round =>
              obtain ⟨k, hk, rfl, st⟩ := hrel
              clear S8
              have hbx := (st.blk (i := 0) rfl).cell (i := 0) rfl
              by_cases hkN : k < N
              · have kI : (k : Int) < (N : Int) := by omega
                obtain ⟨b3, o3, A4, c4, g, he, hg, hcg, hrg, _⟩ := (HA.out.keep st.below).row (k := k) (by rw [HX.out]; exact hkN)
                obtain ⟨rfl, rfl⟩ : b = b3 ∧ o = o3 := by simpa using he
                have hgl := sys_len HS.out hg
                obtain ⟨l, hl⟩ : ∃ l, g.length = l := ⟨_, rfl⟩
                have hln : l = n := by omega
                subst hln
                rw [hl] at hcg
                obtain ⟨b4, o4, y, rfl, hgy, hcy⟩ := hrg.int (k := f) (by omega)
                obtain ⟨y, rfl, hy0⟩ := sys_at HS.out hg hgy
                have hyn : y < l := by omega
                have yI : (y : Int) < (l : Int) := hy0
                obtain ⟨d1, hd1, hd1n⟩ := HDA.out f hfn
                obtain ⟨d2, hd2, hd2n⟩ := HDA.out y hyn
                have cd1 := own_cell (st.own (i := 3) rfl) (show (ints D)[f]? = some (.int .i64 (d1 : Int)) by simp [hd1])
                have cd2 := own_cell (st.own (i := 3) rfl) (show (ints D)[y]? = some (.int .i64 (d2 : Int)) by simp [hd2])
                have hgp := HGP.out f g y hfn (List.mem_of_getElem? hg) (fz_at hgy)
                rw [fz_at hd1, fz_at hd2] at hgp
                obtain ⟨z, hz⟩ : ∃ z, (d1 : Int) - (d2 : Int) = z := ⟨_, rfl⟩
                rw [hz] at hgp
                obtain ⟨z0, z1⟩ := hgp
                have k1 : IntKind.i64.wrap ((d1 : Int) - (d2 : Int)) = z := (IntWalk.i64_in _ (by omega)).trans hz
                have z2 : ¬ z < -1 := by omega
                have z3 : ¬ (1 : Int) < z := by omega
                have S9 := Lib.hid st
                clear st hg hgy hd1 hd2 hrg he hl hz
                go_wp2
                go_quiet (fail)
                go_wp2
                go_roundw
                case rel => exact ⟨k + 1, by omega, by go_num, S9.out.go (below_drewN (Below.refl _ _) _)⟩
                case measure => simp [intOf]; omega
              · obtain rfl : k = N := by omega
                have S8 := Lib.hid st
                clear st
                go_wp2
                go_roundw
                case rel => exact ⟨f + 1, by omega, by go_num, S8.out⟩
                case measure => simp [intOf]; omega
          · obtain rfl : f = n := by omega
            have S8 := Lib.hid st
            clear st
            have qI : (q : Int) < (f : Int) := by omega
            have cq := own_cell (S8.out.own (i := 3) rfl) (show (ints D)[q]? = some (.int .i64 (e : Int)) by simp [HDQ.out])
            go_wp2
            go_ret
            exact ⟨rfl, B1.out.trans (S8.out.below.mono B1.out.size)⟩
      · have e0 : fz (distL xss n q) p = (e : Int) := hsy.symm
        have e1' : fwRes xss (distL xss n q) p = fwL xss (distL xss n q) e p := by unfold fwRes; rw [e0, if_neg hmax, Int.toNat_natCast]
        have e4' : fwCode (distL xss n q) p = 0 := by unfold fwCode; rw [e0, if_neg hmax]
        rw [e1'] at e1
        rw [e4'] at e4
        obtain ⟨hrun, hwok⟩ := fwL_run hdq e p hp e0
        have hwl := fwL_len xss (distL xss n q) e p
        obtain ⟨W, hW⟩ : ∃ W, fwL xss (distL xss n q) e p = W := ⟨_, rfl⟩
        rw [hW] at e1 hrun hwok hwl
        have hwi : wordIn (n : Int) W (p : Int) = true := decide_eq_true ⟨by omega, by omega, by omega⟩
        have E9 := Lib.hid (show runR xss (p : Int) W = (q : Int) ∧ runC xss (p : Int) W = 0 from ⟨by rw [(e9 W).1]; simp [appR, hsys, hwi, hwok, hrun], by rw [(e9 W).2]; simp [appC, hsys, hwi, hwok]⟩)
        have E1 := Lib.hid e1
        have E4 := Lib.hid e4
        have HWL := Lib.hid hwl
        clear ho hman hsys hc0 hallp hallq hall0 e1 e4 e5 e6 e7 e8 e9 e1' e4' hn hx0 hfl hfree hdp hdq hsy hD hDq hself hgap hdat hdia hrun hwok hwl hW hwi e0
        have hbx := (S1.out.blk (i := 0) rfl).cell (i := 0) rfl
        go_wp2_with fail
        refine (iFirstWord_any (p : Int) (q : Int) _ HX.out (HA.out.keep S1.out.below) hN HR.out).mono ?_
        rintro e w2 ⟨A2, c2, rfl, own, bel⟩
        rw [E1.out, HWL.out] at own
        rw [E1.out, E4.out, HWL.out]
        have S2 := Lib.hid (S1.out.addOwn bel own (Nat.le_refl _))
        clear bel hbx S1 own
        have hbx := (S2.out.blk (i := 0) rfl).cell (i := 0) rfl
        go_wp2_with fail
        refine (sFirstWord_any (p : Int) (q : Int) _ HX.out (HA.out.keep S2.out.below) hN HR.out).mono ?_
        rintro e w3 ⟨A3, c3, rfl, own, bel⟩
        rw [E1.out, HWL.out] at own
        rw [E1.out, E4.out, HWL.out]
        have S3 := Lib.hid (S2.out.addOwn bel own (Nat.le_refl _))
        clear bel hbx S2 own
        have hne : ((0 : Int) != 0) = false := rfl
        have RA := Lib.hid (own_rd (S3.out.own (i := 1) rfl))
        have RB := Lib.hid (own_rd (S3.out.own (i := 2) rfl))
        go_wp2_with fail
        refine (likeB (n := e) (m := e) _ HWL.out HWL.out RA.out RB.out (by omega)).mono ?_
        rintro e w4 ⟨rfl, bel⟩
        rw [decide_eq_true rfl]
        have S4 := Lib.hid (S3.out.go bel)
        clear bel S3 RA RB
        have hbx := (S4.out.blk (i := 0) rfl).cell (i := 0) rfl
        go_wp2_with fail
        refine (iDistancesFrom_any (p : Int) _ HX.out (HA.out.keep S4.out.below) hN HR.out).mono ?_
        rintro e w6 ⟨A6, c6, rfl, own, bel⟩
        rw [E5.out, HDL.out] at own
        rw [E5.out, E6.out, HDL.out]
        have S5 := Lib.hid (S4.out.addOwn bel own (Nat.le_refl _))
        clear bel hbx S4 own
        obtain ⟨gD, rfl⟩ := own_shape (S5.out.own (i := 3) rfl) (show 0 < n by omega)
        have cself := own_cell (S5.out.own (i := 3) rfl) (show (ints D)[p]? = some (.int .i64 0) by simp [HSF.out])
        have pI : (p : Int) < (n : Int) := by omega
        have hbx := (S5.out.blk (i := 0) rfl).cell (i := 0) rfl
        go_wp2_with fail
        refine (flags5_any (n := n) (c0 := c01) (A0 := A01) _ hpos (cell_be HC0.out S5.out.below)).mono ?_
        rintro e w7 ⟨rfl, bel⟩
        have S6 := Lib.hid (S5.out.go bel)
        clear bel hbx S5 cself
        have cself := own_cell (S6.out.own (i := 3) rfl) (show (ints D)[p]? = some (.int .i64 0) by simp [HSF.out])
        have hnn : ((n : Int) != (n : Int)) = false := by simp
        go_wp2
        go_loopw [12] (fun v wr => ∃ f : Nat, f ≤ n ∧ v = .int .i64 f ∧ St w1 wr [.blk w1.heap.size #[.slice (some ⟨b, o, none⟩) N c1] 26, .own 2 A2 e c2 (ints W), .own 2 A3 e c3 (ints W), .own 2 (some ⟨gD, 0, none⟩) n c6 (ints D)]) (fun v _ => n - (intOf v).toNat)
        case atStart => exact ⟨0, Nat.zero_le _, rfl, S6.out⟩
        case round =>
          obtain ⟨f, hf, rfl, st⟩ := hrel
          clear S6 hnn hne cself
          by_cases hfn : f < n
          · have fI : (f : Int) < (n : Int) := by omega
            have S8 := Lib.hid st
            clear st
            go_wp2
            go_loopw [13] (fun v wr => ∃ k : Nat, k ≤ N ∧ v = .int .i64 k ∧ St w1 wr [.blk w1.heap.size #[.slice (some ⟨b, o, none⟩) N c1] 26, .own 2 A2 e c2 (ints W), .own 2 A3 e c3 (ints W), .own 2 (some ⟨gD, 0, none⟩) n c6 (ints D)]) (fun v _ => N - (intOf v).toNat)
            case atStart => exact ⟨0, Nat.zero_le _, rfl, S8.out⟩
            case round =>
              obtain ⟨k, hk, rfl, st⟩ := hrel
              clear S8
              have hbx := (st.blk (i := 0) rfl).cell (i := 0) rfl
              by_cases hkN : k < N
              · have kI : (k : Int) < (N : Int) := by omega
                obtain ⟨b3, o3, A4, c4, g, he, hg, hcg, hrg, _⟩ := (HA.out.keep st.below).row (k := k) (by rw [HX.out]; exact hkN)
                obtain ⟨rfl, rfl⟩ : b = b3 ∧ o = o3 := by simpa using he
                have hgl := sys_len HS.out hg
                obtain ⟨l, hl⟩ : ∃ l, g.length = l := ⟨_, rfl⟩
                have hln : l = n := by omega
                subst hln
                rw [hl] at hcg
                obtain ⟨b4, o4, y, rfl, hgy, hcy⟩ := hrg.int (k := f) (by omega)
                obtain ⟨y, rfl, hy0⟩ := sys_at HS.out hg hgy
                have hyn : y < l := by omega
                have yI : (y : Int) < (l : Int) := hy0
                obtain ⟨d1, hd1, hd1n⟩ := HDA.out f hfn
                obtain ⟨d2, hd2, hd2n⟩ := HDA.out y hyn
                have cd1 := own_cell (st.own (i := 3) rfl) (show (ints D)[f]? = some (.int .i64 (d1 : Int)) by simp [hd1])
                have cd2 := own_cell (st.own (i := 3) rfl) (show (ints D)[y]? = some (.int .i64 (d2 : Int)) by simp [hd2])
                have hgp := HGP.out f g y hfn (List.mem_of_getElem? hg) (fz_at hgy)
                rw [fz_at hd1, fz_at hd2] at hgp
                obtain ⟨z, hz⟩ : ∃ z, (d1 : Int) - (d2 : Int) = z := ⟨_, rfl⟩
                rw [hz] at hgp
                obtain ⟨z0, z1⟩ := hgp
                have k1 : IntKind.i64.wrap ((d1 : Int) - (d2 : Int)) = z := (IntWalk.i64_in _ (by omega)).trans hz
                have z2 : ¬ z < -1 := by omega
                have z3 : ¬ (1 : Int) < z := by omega
                have S9 := Lib.hid st
                clear st hg hgy hd1 hd2 hrg he hl hz
                go_wp2
                go_quiet (fail)
                go_wp2
                go_roundw
                case rel => exact ⟨k + 1, by omega, by go_num, S9.out.go (below_drewN (Below.refl _ _) _)⟩
                case measure => simp [intOf]; omega
              · obtain rfl : k = N := by omega
                have S8 := Lib.hid st
                clear st
                go_wp2
                go_roundw
                case rel => exact ⟨f + 1, by omega, by go_num, S8.out⟩
                case measure => simp [intOf]; omega
          · obtain rfl : f = n := by omega
            have S8 := Lib.hid st
            clear st
            have qI : (q : Int) < (f : Int) := by omega
            have cq := own_cell (S8.out.own (i := 3) rfl) (show (ints D)[q]? = some (.int .i64 (e : Int)) by simp [HDQ.out])
            have RW := Lib.hid (own_rd (S8.out.own (i := 1) rfl))
            clear cq
            have hbx := (S8.out.blk (i := 0) rfl).cell (i := 0) rfl
            go_wp2_with fail
            refine (iRun_any (p : Int) _ HX.out (HA.out.keep S8.out.below) hN HR.out HWL.out RW.out (by omega)).mono ?_
            rintro e_ w9 ⟨rfl, bel⟩
            rw [E9.out.1, E9.out.2]
            have S10 := Lib.hid (S8.out.go bel)
            clear bel hbx S8 RW
            have hbx := (S10.out.blk (i := 0) rfl).cell (i := 0) rfl
            go_wp2_with fail
            refine (iDiameterOf_any _ HX.out (HA.out.keep S10.out.below) hN HR.out).mono ?_
            rintro e w10 ⟨rfl, bel⟩
            rw [E7.out, E8.out]
            have S11 := Lib.hid (S10.out.go bel)
            clear bel hbx S10
            have cq := own_cell (S11.out.own (i := 3) rfl) (show (ints D)[q]? = some (.int .i64 (e : Int)) by simp [HDQ.out])
            obtain ⟨X, hX⟩ : ∃ X, diaTo xss f f = X := ⟨_, rfl⟩
            have hXe := HDI.out
            rw [hX] at hXe ⊢
            clear hX
            go_wp2
            go_ret
            exact ⟨rfl, B1.out.trans (S11.out.below.mono B1.out.size)⟩
theorem walk_FnPaths (a0 : Option Addr) (len0 cap0 : Nat) (z0 : List Int) (w : World) (w0 : IsRow .u8 w a0 len0 cap0 z0) :
    Calls Try.prog 4 #[.slice a0 len0 cap0] w fun e w' => e = .returned (.bool true) ∧ Below w.heap.size w w' := by
  obtain ⟨bs, h1, h2, h3⟩ := isRow_u8 w0
  exact law_FnPaths w h1 h2 h3
end Go.Proofs.Ytckmmgepoccopaa
