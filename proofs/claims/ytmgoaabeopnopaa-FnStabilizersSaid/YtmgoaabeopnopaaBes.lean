/- spec.l02Beside. -/
import Derived.Test.YtmgoaabeopnopaaL17
import Derived.Test.YtmgoaabeopnopaaL12
import Derived.Deep.RegionHeld3
namespace Go.Proofs.Ytmgoaabeopnopaa
open Go.RowKit

abbrev besPs (H G : Nat) (m k : Value) (r cR : Nat) (AR : Option Addr) (vals : List Value) (L : List (List Int)) : List Pc :=
  [.blk H #[m] 27, .blk (H + 1) #[k] 27, .blk (H + 1 + 1) #[.slice none 0 0] 27, .blk G #[.slice AR r cR] 27, .rows 2 36 AR r cR vals L]

theorem flg_s3 {w W : World} {x y b o p q : Nat} {u v t : Value} (h0 : w.cell? ⟨x, y, none⟩ = some t) (h : Below w.heap.size w W ∧ W.cell? ⟨p, q, none⟩ = some v ∧ W.cell? ⟨b, o, none⟩ = some u) : W.cell? ⟨x, y, none⟩ = some t := cell_be h0 h.1
set_option maxRecDepth 100000 in
set_option maxHeartbeats 6400000 in
theorem beside_any {b1 o1 b2 o2 c d N M a b : Nat} {xss yss : List (List Int)} (w : World) (hx : xss.length = N) (hy : yss.length = M) (ha : RdSS w (some ⟨b1, o1, none⟩) xss) (hb : RdSS w (some ⟨b2, o2, none⟩) yss) (ka : OkI a xss) (kb : OkI b yss) (hab : a * b ≤ 400) (hr : N + M ≤ 5) :
    Calls Try.prog 157 #[.agg #[.slice (some ⟨b1, o1, none⟩) N c], .agg #[.slice (some ⟨b2, o2, none⟩) M d]] w fun e w' => ∃ (A' : Option Addr) (c' : Nat) (vals : List Value), e = .returned (.agg #[.slice A' (N + M) c']) ∧ St w w' [.rows 2 36 A' (N + M) c' vals (besL a b xss yss)] := by
  have hN1 := ka.r1
  have hM1 := kb.r1
  have ha1 := ka.n2
  have hb1 := kb.n2
  have ha4 := ka.n4
  have hb4 := kb.n4
  rw [hx] at hN1
  rw [hy] at hM1
  obtain ⟨b3, o3, A01, c01, x0, he, hg0, hc0, _, _⟩ := ha.row (k := 0) (by omega)
  obtain ⟨rfl, rfl⟩ : b1 = b3 ∧ o1 = o3 := by simpa using he
  rw [(ka.inv x0 (List.mem_of_getElem? hg0)).1, Nat.add_zero] at hc0
  obtain ⟨b4, o4, A02, c02, y0, he2, hg1, hc1, _, _⟩ := hb.row (k := 0) (by omega)
  obtain ⟨rfl, rfl⟩ : b2 = b4 ∧ o2 = o4 := by simpa using he2
  rw [(kb.inv y0 (List.mem_of_getElem? hg1)).1, Nat.add_zero] at hc1
  obtain ⟨AB, hABv⟩ : ∃ AB, a * b = AB := ⟨_, rfl⟩
  have hprod : IntKind.i64.wrap ((a : Int) * (b : Int)) = (AB : Int) := by
    have e1 : (a : Int) * (b : Int) = (AB : Int) := by rw [← hABv]; simp
    rw [e1]
    exact IntWalk.i64_in _ (by omega)
  have hprod2 : (a : Int) * (b : Int) = (AB : Int) := by rw [← hABv]; simp
  have hsl : (besL a b xss yss).length = N + M := by rw [besL_len, hx, hy]
  have hrl : ∀ (r : Nat) (row : List Int), (besL a b xss yss)[r]? = some row → row.length = AB := fun r row h => by
    have hm := List.mem_of_getElem? h
    rcases List.mem_append.1 hm with h1 | h1
    · obtain ⟨m, _, rfl⟩ := List.mem_map.1 h1
      rw [bes1, List.length_map, List.length_range, hABv]
    · obtain ⟨m, _, rfl⟩ := List.mem_map.1 h1
      rw [bes2, List.length_map, List.length_range, hABv]
  rw [hABv] at hab
  have HX := Lib.hid hx
  have HY := Lib.hid hy
  have HA := Lib.hid ha
  have HB := Lib.hid hb
  have HOA := Lib.hid ka
  have HOB := Lib.hid kb
  have HC0 := Lib.hid hc0
  have HC1 := Lib.hid hc1
  have HAB := Lib.hid hABv
  have HSL := Lib.hid hsl
  have HRLS := Lib.hid hrl
  obtain ⟨K, hK⟩ : ∃ K, N + M = K := ⟨_, rfl⟩
  rw [hK] at hr HSL ⊢
  have HK := Lib.hid hK
  have hnm : (N : Int) + (M : Int) = (K : Int) := by omega
  have st0 := (((St.start w).addBlk #[.slice (some ⟨b1, o1, none⟩) N c] 27).addBlk #[.slice (some ⟨b2, o2, none⟩) M d] 27).addBlk #[.slice none 0 0] 27
  simp at st0
  have S0 := Lib.hid st0
  have hm := (st0.blk (i := 0) rfl).cell (i := 0) rfl
  have hk := (st0.blk (i := 1) rfl).cell (i := 0) rfl
  clear hx hy ha hb ka kb hc0 hc1 hg0 hg1 he he2 hABv hsl hrl st0 hK
  go_enter Try.func157, Try.ntmps157
  have Sd := Lib.hid (S0.out.go (below_drewN (Below.refl _ _) 1))
  have C0d := Lib.hid (cell_be HC0.out Sd.out.below)
  have C1d := Lib.hid (cell_be HC1.out Sd.out.below)
  go_wp2
  go_region_law ((first
    | (refine step_call rfl 87 #[.tmp 11] #[27] (by rfl) Try.func87 (by rfl) (by rfl) #[.agg #[.slice (some ⟨b1, o1, none⟩) N c]] (by simp [Act.eval]) _ (sFlags_bel _ hN1 C0d.out) ?_
       rintro e wm ⟨rfl, bel⟩
       refine ⟨_, rfl, ?_⟩
       have Sm := Lib.hid (Sd.out.go bel)
       have C1m := Lib.hid (cell_be HC1.out Sm.out.below)
       have xm := (Sm.out.blk (i := 0) rfl).cell (i := 0) rfl
       have ym := (Sm.out.blk (i := 1) rfl).cell (i := 0) rfl
       clear bel)
    | (refine step_call rfl 87 #[.tmp 13] #[27] (by rfl) Try.func87 (by rfl) (by rfl) #[.agg #[.slice (some ⟨b2, o2, none⟩) M d]] (by simp [Act.eval]) _ (sFlags_bel _ hM1 C1d.out) ?_
       rintro e wk ⟨rfl, bel⟩
       refine ⟨_, rfl, ?_⟩
       have Sk := Lib.hid (Sd.out.go bel)
       have C0k := Lib.hid (cell_be HC0.out Sk.out.below)
       have xk := (Sk.out.blk (i := 0) rfl).cell (i := 0) rfl
       have yk := (Sk.out.blk (i := 1) rfl).cell (i := 0) rfl
       clear bel)
    | (refine step_call rfl 87 #[.tmp 13] #[27] (by rfl) Try.func87 (by rfl) (by rfl) #[.agg #[.slice (some ⟨b2, o2, none⟩) M d]] (by simp [Act.eval]) _ (sFlags_bel _ hM1 C1m.out) ?_
       rintro e wa ⟨rfl, bel⟩
       refine ⟨_, rfl, ?_⟩
       have Sz := Lib.hid (Sm.out.go bel)
       clear bel)
    | (refine step_call rfl 87 #[.tmp 11] #[27] (by rfl) Try.func87 (by rfl) (by rfl) #[.agg #[.slice (some ⟨b1, o1, none⟩) N c]] (by simp [Act.eval]) _ (sFlags_bel _ hN1 C0k.out) ?_
       rintro e wa ⟨rfl, bel⟩
       refine ⟨_, rfl, ?_⟩
       have Sz := Lib.hid (Sk.out.go bel)
       clear bel)))
  all_goals
    have S1 := Lib.hid (show St w (wa.alloc (.cells #[.slice none 0 0] 27)) (besPs w.heap.size wa.heap.size (.slice (some ⟨b1, o1, none⟩) N c) (.slice (some ⟨b2, o2, none⟩) M d) 0 0 none [] ((besL a b xss yss).take 0)) from (Sz.out.addBlk #[.slice none 0 0] 27).addNilRows 2 36)
    clear hm hk S0 Sd C0d C1d Sz
    go_wp2
    go_loopw [8] (fun v wr => ∃ (r cR : Nat) (AR : Option Addr) (vals : List Value), r ≤ K ∧ v = .int .i64 r ∧ St w wr (besPs w.heap.size wa.heap.size (.slice (some ⟨b1, o1, none⟩) N c) (.slice (some ⟨b2, o2, none⟩) M d) r cR AR vals ((besL a b xss yss).take r))) (fun v _ => K - (intOf v).toNat)
    case atStart => exact ⟨0, 0, none, [], Nat.zero_le _, rfl, S1.out⟩
    case round =>
      obtain ⟨r, cR, AR, vals, hr', rfl, st⟩ := hrel
      clear S1
      have hbx := (st.blk (i := 0) rfl).cell (i := 0) rfl
      have hby := (st.blk (i := 1) rfl).cell (i := 0) rfl
      by_cases hrK : r < K
      · obtain ⟨ROW, hROW⟩ : ∃ ROW, (besL a b xss yss)[r]? = some ROW := ⟨_, List.getElem?_eq_getElem (by rw [HSL.out]; exact hrK)⟩
        have HROW := Lib.hid (show (besL a b xss yss)[r]?.getD [] = ROW by rw [hROW]; rfl)
        have HRL := Lib.hid (HRLS.out r ROW hROW)
        have HNX := Lib.hid (show (besL a b xss yss).take (r + 1) = (besL a b xss yss).take r ++ [ROW] by rw [List.take_add_one, hROW]; rfl)
        have S5 := Lib.hid (st.addMade 2)
        have rK : (r : Int) < (K : Int) := by omega
        obtain ⟨wo, hwo⟩ : ∃ wo, wo = wr := ⟨_, rfl⟩
        subst hwo
        clear st hROW
        go_wp2
        clear hbx hby rK
        go_loopw [9, 10] (fun u v wr => ∃ (t c6 : Nat) (A6 : Option Addr), t ≤ AB ∧ u = .slice A6 t c6 ∧ v = .int .i64 t ∧ St w wr (besPs w.heap.size wa.heap.size (.slice (some ⟨b1, o1, none⟩) N c) (.slice (some ⟨b2, o2, none⟩) M d) r cR AR vals ((besL a b xss yss).take r) ++ [.own 2 A6 t c6 (ints (ROW.take t))])) (fun _ v _ => AB - (intOf v).toNat)
        case atStart => exact ⟨0, 0, _, Nat.zero_le _, rfl, rfl, S5.out⟩
        case round =>
          obtain ⟨t, c6, A6, ht, rfl, rfl, st⟩ := hrel
          clear S5
          by_cases htj : t < AB
          · have tI : (t : Int) < (AB : Int) := by omega
            by_cases hrN : r < N
            · obtain ⟨z, hz⟩ : ∃ z, ROW[t]? = some z := ⟨_, List.getElem?_eq_getElem (by rw [HRL.out]; exact htj)⟩
              obtain ⟨h1, h2, h3⟩ := dm_of (a := a) (b := b) (x := t) (by rw [HAB.out]; exact htj)
              obtain ⟨b3, o3, A4, c4, mv, he, hmv, hcc, hrd, _⟩ := (HA.out.keep st.below).row (k := r) (by rw [HX.out]; exact hrN)
              obtain ⟨rfl, rfl⟩ : b1 = b3 ∧ o1 = o3 := by simpa using he
              obtain ⟨y, hy, e1, _⟩ := (HOA.out.inv mv (List.mem_of_getElem? hmv)).2 (t / b) h1
              have hml := (HOA.out.inv mv (List.mem_of_getElem? hmv)).1
              rw [hml] at hcc
              obtain ⟨b4, o4, y', rfl, hg4, hc4⟩ := hrd.int (k := t / b) (by rw [hml]; exact h1)
              rw [e1] at hg4
              injection hg4 with hg4
              subst hg4
              obtain ⟨q, hq⟩ : ∃ q, t / b = q := ⟨_, rfl⟩
              obtain ⟨m, hm⟩ : ∃ m, t % b = m := ⟨_, rfl⟩
              have hzz : z = ((y * b + m : Nat) : Int) := by
                have h4 := bes1_at (a := a) (b := b) (m := mv) (x := t) (by rw [HAB.out]; exact htj) e1
                have h6 : (besL a b xss yss)[r]? = some (bes1 a b mv) := by rw [besL, List.getElem?_append_left (by simp [HX.out]; exact hrN), List.getElem?_map, hmv]; rfl
                have h5 : ROW = bes1 a b mv := by rw [← HROW.out, h6]; rfl
                rw [h5, h4, hm] at hz
                injection hz with hz
                exact hz.symm
              have hlt := dm_lt (a := a) (b := b) hy h2
              rw [HAB.out, hm] at hlt
              rw [hq] at hc4 h1
              rw [hm] at h2
              obtain ⟨yb, hyb⟩ : ∃ yb, y * b = yb := ⟨_, rfl⟩
              rw [hyb] at hzz hlt
              obtain ⟨zz, hzn⟩ : ∃ zz, yb + m = zz := ⟨_, rfl⟩
              rw [hzn] at hzz hlt
              subst hzz
              have t1 : (t : Int).tdiv (b : Int) = (q : Int) := by rw [← hq]; rfl
              have t2 : (t : Int).tmod (b : Int) = (m : Int) := by rw [← hm]; rfl
              have t3 : (t : Int) / (b : Int) = (q : Int) := by rw [← hq]; rfl
              have t4 : (t : Int) % (b : Int) = (m : Int) := by rw [← hm]; rfl
              have hbz : ((b : Int) == 0) = false := by rw [beq_eq_false_iff_ne]; omega
              have hb0 : ¬ b = 0 := by omega
              have kz : IntKind.i64.wrap (zz : Int) = (zz : Int) := IntWalk.i64_in _ (by omega)
              have kq : IntKind.i64.wrap (q : Int) = (q : Int) := IntWalk.i64_in _ (by omega)
              have km : IntKind.i64.wrap (m : Int) = (m : Int) := IntWalk.i64_in _ (by omega)
              have ebI : (y : Int) * (b : Int) = (yb : Int) := by rw [← hyb]; simp
              have ezI : (yb : Int) + (m : Int) = (zz : Int) := by omega
              have k1 : IntKind.i64.wrap (yb : Int) = (yb : Int) := IntWalk.i64_in _ (by omega)
              have k2 : IntKind.i64.wrap ((yb : Int) + (m : Int)) = (zz : Int) := (IntWalk.i64_in _ (by omega)).trans ezI
              have k3 : IntKind.i64.wrap ((y : Int) * (b : Int)) = (yb : Int) := by rw [ebI]; exact k1
              have qI : (q : Int) < (a : Int) := by omega
              have rI : (r : Int) < (N : Int) := by omega
              have qP : 0 ≤ (q : Int) := by omega
              have mI : (m : Int) < (b : Int) := by omega
              have hbx := (st.blk (i := 0) rfl).cell (i := 0) rfl
              have HSU := Lib.hid (show ROW.take (t + 1) = ROW.take t ++ [(zz : Int)] by rw [List.take_add_one, hz]; rfl)
              have Sd := Lib.hid (st.go (below_drewN (Below.refl _ _) 1))
              have hlo2 := Sd.out.lo
              clear st hz hmv hrd e1 hq hm hyb hzn hml
              go_wp2
              go_region_law ((refine step_push_h rfl (.tmp 40) (.tmp 57) 36 2 (by rfl) Try.underlying36 (.int .i64 0) 8 Try.info2 rfl wr.heap.size (by rfl) w.heap.size (.slice A6 t c6) t _ (by rfl) (Sd.out.own (i := 5) rfl) _ (by rfl) (by rfl) (by omega) (by omega) hlo2 ?_; intro A7 c7 w7 own7 gr7 hat7))
              all_goals
                have own8 : w7.ownsRow w.heap.size 2 1 (.slice A7 (t + 1) c7) (t + 1) (ints (ROW.take (t + 1))) := by
                  rw [HSU.out]
                  simpa [ints] using own7
                have S7 := Lib.hid (Sd.out.push (i := 5) rfl own8 gr7 hat7)
                clear own7 own8 gr7 hat7
                go_wp2
                go_roundw
                case rel => exact ⟨t + 1, _, _, by omega, rfl, by go_num, S7.out⟩
                case measure => simp [intOf]; omega
            · obtain ⟨z, hz⟩ : ∃ z, ROW[t]? = some z := ⟨_, List.getElem?_eq_getElem (by rw [HRL.out]; exact htj)⟩
              obtain ⟨h1, h2, h3⟩ := dm_of (a := a) (b := b) (x := t) (by rw [HAB.out]; exact htj)
              obtain ⟨r2, hr2⟩ : ∃ r2, r - N = r2 := ⟨_, rfl⟩
              obtain ⟨b3, o3, A4, c4, mv, he, hmv, hcc, hrd, _⟩ := (HB.out.keep st.below).row (k := r2) (by rw [HY.out]; omega)
              obtain ⟨rfl, rfl⟩ : b2 = b3 ∧ o2 = o3 := by simpa using he
              obtain ⟨y, hy, e1, _⟩ := (HOB.out.inv mv (List.mem_of_getElem? hmv)).2 (t % b) h2
              have hml := (HOB.out.inv mv (List.mem_of_getElem? hmv)).1
              rw [hml] at hcc
              obtain ⟨b4, o4, y', rfl, hg4, hc4⟩ := hrd.int (k := t % b) (by rw [hml]; exact h2)
              rw [e1] at hg4
              injection hg4 with hg4
              subst hg4
              obtain ⟨q, hq⟩ : ∃ q, t / b = q := ⟨_, rfl⟩
              obtain ⟨m, hm⟩ : ∃ m, t % b = m := ⟨_, rfl⟩
              have hzz : z = ((q * b + y : Nat) : Int) := by
                have h4 := bes2_at (a := a) (b := b) (m := mv) (x := t) (by rw [HAB.out]; exact htj) e1
                have h6 : (besL a b xss yss)[r]? = some (bes2 a b mv) := by rw [besL, List.getElem?_append_right (by simp [HX.out]; omega), List.length_map, HX.out, hr2, List.getElem?_map, hmv]; rfl
                have h5 : ROW = bes2 a b mv := by rw [← HROW.out, h6]; rfl
                rw [h5, h4, hq] at hz
                injection hz with hz
                exact hz.symm
              have hlt := dm_lt (a := a) (b := b) h1 hy
              rw [HAB.out, hq] at hlt
              rw [hm] at hc4 h2
              rw [hq] at h1
              obtain ⟨yb, hyb⟩ : ∃ yb, q * b = yb := ⟨_, rfl⟩
              rw [hyb] at hzz hlt
              obtain ⟨zz, hzn⟩ : ∃ zz, yb + y = zz := ⟨_, rfl⟩
              rw [hzn] at hzz hlt
              subst hzz
              have t1 : (t : Int).tdiv (b : Int) = (q : Int) := by rw [← hq]; rfl
              have t2 : (t : Int).tmod (b : Int) = (m : Int) := by rw [← hm]; rfl
              have t3 : (t : Int) / (b : Int) = (q : Int) := by rw [← hq]; rfl
              have t4 : (t : Int) % (b : Int) = (m : Int) := by rw [← hm]; rfl
              have hbz : ((b : Int) == 0) = false := by rw [beq_eq_false_iff_ne]; omega
              have hb0 : ¬ b = 0 := by omega
              have kz : IntKind.i64.wrap (zz : Int) = (zz : Int) := IntWalk.i64_in _ (by omega)
              have kq : IntKind.i64.wrap (q : Int) = (q : Int) := IntWalk.i64_in _ (by omega)
              have km : IntKind.i64.wrap (m : Int) = (m : Int) := IntWalk.i64_in _ (by omega)
              have ebI : (q : Int) * (b : Int) = (yb : Int) := by rw [← hyb]; simp
              have ezI : (yb : Int) + (y : Int) = (zz : Int) := by omega
              have k1 : IntKind.i64.wrap (yb : Int) = (yb : Int) := IntWalk.i64_in _ (by omega)
              have k2 : IntKind.i64.wrap ((yb : Int) + (y : Int)) = (zz : Int) := (IntWalk.i64_in _ (by omega)).trans ezI
              have k3 : IntKind.i64.wrap ((q : Int) * (b : Int)) = (yb : Int) := by rw [ebI]; exact k1
              have k4 : IntKind.i64.wrap ((r : Int) - (N : Int)) = (r2 : Int) := (IntWalk.i64_in _ (by omega)).trans (by omega)
              have qI : (q : Int) < (a : Int) := by omega
              have rI : ¬ (r : Int) < (N : Int) := by omega
              have r2I : (r2 : Int) < (M : Int) := by omega
              have mP : 0 ≤ (m : Int) := by omega
              have mI : (m : Int) < (b : Int) := by omega
              have hbx := (st.blk (i := 0) rfl).cell (i := 0) rfl
              have hby := (st.blk (i := 1) rfl).cell (i := 0) rfl
              have HSU := Lib.hid (show ROW.take (t + 1) = ROW.take t ++ [(zz : Int)] by rw [List.take_add_one, hz]; rfl)
              have Sd := Lib.hid (st.go (below_drewN (Below.refl _ _) 1))
              have hlo2 := Sd.out.lo
              clear st hz hmv hrd e1 hq hm hyb hzn hml hr2
              go_wp2
              go_region_law ((refine step_push_h rfl (.tmp 59) (.tmp 80) 36 2 (by rfl) Try.underlying36 (.int .i64 0) 8 Try.info2 rfl wr.heap.size (by rfl) w.heap.size (.slice A6 t c6) t _ (by rfl) (Sd.out.own (i := 5) rfl) _ (by rfl) (by rfl) (by omega) (by omega) hlo2 ?_; intro A7 c7 w7 own7 gr7 hat7))
              all_goals
                have own8 : w7.ownsRow w.heap.size 2 1 (.slice A7 (t + 1) c7) (t + 1) (ints (ROW.take (t + 1))) := by
                  rw [HSU.out]
                  simpa [ints] using own7
                have S7 := Lib.hid (Sd.out.push (i := 5) rfl own8 gr7 hat7)
                clear own7 own8 gr7 hat7
                go_wp2
                go_roundw
                case rel => exact ⟨t + 1, _, _, by omega, rfl, by go_num, S7.out⟩
                case measure => simp [intOf]; omega
          · obtain rfl : t = AB := by omega
            have tI : ¬ (t : Int) < (t : Int) := by omega
            rw [List.take_of_length_le (l := ROW) (by rw [HRL.out]; exact Nat.le_refl _)] at st
            have p1 := (st.blk (i := 3) rfl).cell (i := 0) rfl
            have hlo2 := st.lo
            have S7 := Lib.hid st
            clear st
            go_wp2_with (at_builtin; refine wpList_push_at _ rfl _ _ 22 36 rfl Try.underlying22 (.slice none 0 0) 24 Try.infoS rfl w.heap.size _ _ _ rfl (S7.out.rows (i := 4) rfl) _ rfl rfl (by omega) (by omega) hlo2 ?_)
            intro A8 c8 w8 own8 gr8 hat8
            have st8 := (S7.out.rowPush (i := 4) (j := 5) rfl rfl HRL.out (by decide) (by decide) own8 gr8 hat8).take 5
            have q1 := (st8.blk (i := 3) rfl).cell (i := 0) rfl
            have f1 := (st8.blk (i := 3) rfl).free 0
            have st9 := st8.blkSet (i := 3) rfl 0 (.slice A8 (r + 1) c8)
            have S9 := Lib.hid (show St w (w8.setCell ⟨wa.heap.size, 0, none⟩ (.slice A8 (r + 1) c8)) (besPs w.heap.size wa.heap.size (.slice (some ⟨b1, o1, none⟩) N c) (.slice (some ⟨b2, o2, none⟩) M d) (r + 1) c8 A8 (vals ++ [.slice A6 t c6]) ((besL a b xss yss).take (r + 1))) from by
              rw [HNX.out]
              exact st9)
            clear own8 gr8 hat8 st8 st9 p1
            go_wp2
            go_roundw
            case rel => exact ⟨r + 1, _, _, _, by omega, by go_num, S9.out⟩
            case measure => simp [intOf]; omega
      · obtain rfl : r = K := by omega
        rw [List.take_of_length_le (by rw [HSL.out]; exact Nat.le_refl _)] at st
        have z0 := (st.blk (i := 2) rfl).cell (i := 0) rfl
        have f0 := (st.blk (i := 2) rfl).free 0
        have o0 := (st.blk (i := 3) rfl).cell (i := 0) rfl
        have S5 := Lib.hid st
        clear st
        go_wp2
        have st4 := S5.out.blkSet (i := 2) rfl 0 (.slice AR r cR)
        have y0 := (st4.blk (i := 2) rfl).cell (i := 0) rfl
        refine bodyPost_ret (v := .agg #[.slice AR r cR]) (by simp [results, Try.results157, go_sem, y0]) rfl ⟨AR, cR, vals, rfl, ?_⟩
        exact st4.pick (fun i => i + 4) (fun i hi => by simp at hi ⊢; omega) (fun i hi => by match i, hi with | 0, _ => rfl) (fun i j _ _ h => by omega)
end Go.Proofs.Ytmgoaabeopnopaa
