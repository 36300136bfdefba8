/- impl.movesOfPairs, moveWithinPairs, extensionCode, ExtendManiplex. -/
import Derived.Test.YtmikoihpmhfafaaExw
import Derived.Test.YtmikoihpmhfafaaIdb
import Derived.Test.YtmikoihpmhfafaaIwd
namespace Go.Proofs.Ytmikoihpmhfafaa
open Go.RowKit

theorem tuL_two {n k : Nat} (h : k < n) : (tuL (2 * n)).take (2 * (k + 1)) = (tuL (2 * n)).take (2 * k) ++ [((2 * k + 1 : Nat) : Int), ((2 * k : Nat) : Int)] := by
  rw [show 2 * (k + 1) = 2 * k + 1 + 1 by omega, tuL_succ (by omega), tuL_succ (by omega), List.append_assoc]
  congr 1
  rw [if_pos (by omega), if_neg (by omega)]
  simp
theorem mvL_two {n t : Nat} {m : List Int} {x : Int} (h : t < n) (hx : m[t]? = some x) : (mvL (2 * n) m).take (2 * (t + 1)) = (mvL (2 * n) m).take (2 * t) ++ [2 * x, 2 * x + 1] := by
  rw [show 2 * (t + 1) = 2 * t + 1 + 1 by omega, mvL_succ (by omega), mvL_succ (by omega), List.append_assoc]
  congr 1
  have e1 : 2 * t / 2 = t := by omega
  have e2 : (2 * t + 1) / 2 = t := by omega
  have e3 : 2 * t % 2 = 0 := by omega
  have e4 : (2 * t + 1) % 2 = 1 := by omega
  rw [e1, e2, e3, e4, fz_at hx]
  simp

set_option maxHeartbeats 1600000 in
set_option maxRecDepth 8000 in
theorem imwp_any {b o c N n c0 : Nat} {A0 : Option Addr} (w : World) (h0 : w.cell? ⟨b, o, none⟩ = some (.slice A0 n c0)) (hpos : 0 < N) (hn4 : n ≤ 400) :
    Calls Try.prog 97 #[.agg #[.slice (some ⟨b, o, none⟩) N c]] w (RetN w (tuL (2 * n)) (2 * n)) := by
  have HC0 := Lib.hid h0
  have st0 := (St.start w).addBlk #[.slice (some ⟨b, o, none⟩) N c] 26
  have S0 := Lib.hid st0
  have hbc := (st0.blk (i := 0) rfl).cell (i := 0) rfl
  clear h0 st0
  go_enter Try.func97, Try.ntmps97
  go_wp2_with fail
  refine (flags_bel _ hpos (cell_be HC0.out S0.out.below)).mono ?_
  rintro e w1 ⟨rfl, bel⟩
  have S1 := Lib.hid ((S0.out.go bel).addNil 2)
  clear bel hbc S0
  go_wp2
  go_loopw [3, 7] (fun u v wr => ∃ (k c' : Nat) (A' : Option Addr), k ≤ n ∧ u = .slice A' (2 * k) c' ∧ v = .int .i64 k ∧ St w wr [.blk w.heap.size #[.slice (some ⟨b, o, none⟩) N c] 26, .own 2 A' (2 * k) c' (ints ((tuL (2 * n)).take (2 * k)))]) (fun _ v _ => n - (intOf v).toNat)
  case atStart => exact ⟨0, 0, none, Nat.zero_le _, rfl, rfl, by simpa [ints] using S1.out⟩
  case round =>
    obtain ⟨k, c', A', hk, rfl, rfl, st⟩ := hrel
    clear S1
    have hlo := st.lo
    have S3 := Lib.hid st
    by_cases hkn : k < n
    · have j1 : IntKind.i64.wrap (2 * (k : Int)) = ((2 * k : Nat) : Int) := (IntWalk.i64_in _ (by omega)).trans (by omega)
      have j2 : IntKind.i64.wrap (((2 * k : Nat) : Int) + 1) = ((2 * k + 1 : Nat) : Int) := (IntWalk.i64_in _ (by omega)).trans (by omega)
      obtain ⟨p, hp⟩ : ∃ p, 2 * k = p := ⟨_, rfl⟩
      obtain ⟨q, hq⟩ : ∃ q, 2 * k + 1 = q := ⟨_, rfl⟩
      have HTU := Lib.hid (tuL_two hkn)
      rw [hp, show p + 1 = q by omega] at HTU
      rw [hp] at j1 j2 st
      rw [show p + 1 = q by omega] at j2
      have HP := Lib.hid hp
      have HUS := Lib.hid (cell_lit2 wr (.int .i64 (q : Int)) (.int .i64 (p : Int)) 2)
      have HONE := Lib.hid (one_lit2 (show (.int .i64 (q : Int) : Value).oneCell' = true from rfl) (show (.int .i64 (p : Int) : Value).oneCell' = true from rfl))
      have HOWN := Lib.hid ((st.own (i := 1) rfl).alloc (.cells #[.int .i64 (q : Int), .int .i64 (p : Int)] 2))
      have hlo2 : w.heap.size ≤ (wr.alloc (.cells #[.int .i64 (q : Int), .int .i64 (p : Int)] 2)).heap.size := by simp; omega
      have S4 := Lib.hid st
      have hp8 : p ≤ 800 := by omega
      rw [hp]
      clear st S3 hp hq
      go_wp2_with (at_builtin; refine wpList_cat_at _ rfl (.tmp 10) (.tmp 16) 31 2 rfl Try.underlying31 (.int .i64 0) 8 Try.info2 rfl w.heap.size (.slice A' p c') _ _ rfl HOWN.out ⟨wr.heap.size, 0, none⟩ 2 2 [.int .i64 (q : Int), .int .i64 (p : Int)] rfl rfl HUS.out HONE.out (by omega) (by omega) hlo2 ?_)
      intro A7 c7 w7 own7 gr7 hat7
      have S7 := Lib.hid (show St w w7 [.blk w.heap.size #[.slice (some ⟨b, o, none⟩) N c] 26, .own 2 A7 (2 * (k + 1)) c7 (ints ((tuL (2 * n)).take (2 * (k + 1))))] from by
        have e1 : 2 * (k + 1) = p + 2 := by have := HP.out; omega
        have h := S4.out.turn (i := 1) rfl (below1 _ _) own7 gr7 (hat_of (by simpa using hat7))
        rw [HTU.out, e1]
        simpa [ints] using h)
      have e1 : p + 2 = 2 * (k + 1) := by have := HP.out; omega
      rw [e1]
      clear own7 gr7 hat7 e1
      go_wp2
      go_roundw
      case rel => exact ⟨k + 1, c7, A7, by omega, rfl, by go_num, S7.out⟩
      case measure => simp [intOf]; omega
    · obtain rfl : k = n := by omega
      rw [List.take_of_length_le (by rw [tuL_len]; exact Nat.le_refl _)] at st
      have S5 := Lib.hid st
      clear st S3
      go_wp2
      go_ret
      exact ⟨A', c', rfl, S5.out.own (i := 1) rfl, S5.out.below⟩

abbrev imopPs (H g N : Nat) (m : Value) (vals : List Value) (L : List (List Int)) : List Pc :=
  [.blk H #[m] 26, .rows 2 31 (some ⟨g, 0, none⟩) N N vals L]

set_option maxHeartbeats 3200000 in
set_option maxRecDepth 100000 in
theorem imop_any {b o c N n : Nat} {xss : List (List Int)} (w : World) (hx : xss.length = N) (ha : RdSS w (some ⟨b, o, none⟩) xss) (hsys : okSys n xss = true) (hN : N ≤ 16) :
    Calls Try.prog 96 #[.agg #[.slice (some ⟨b, o, none⟩) N c]] w fun e w' => ∃ g vals, e = .returned (.slice (some ⟨g, 0, none⟩) N N) ∧ St w w' [.rows 2 31 (some ⟨g, 0, none⟩) N N vals (mvS (2 * n) xss)] := by
  have hn4 := (sys_parts hsys).2.1
  have HX := Lib.hid hx
  have HA := Lib.hid ha
  have HS := Lib.hid hsys
  have HSL := Lib.hid (show (mvS (2 * n) xss).length = N by rw [mvS_len, hx])
  have hmkr := run_make_row' (P := Try.prog) 24 31 (.slice none 0 0) 24 Try.underlying24 Try.infoS rfl .i64 .i64 N (by omega) (by omega)
  have st0 := (St.start w).addBlk #[.slice (some ⟨b, o, none⟩) N c] 26
  have S0 := Lib.hid st0
  have hbc := (st0.blk (i := 0) rfl).cell (i := 0) rfl
  clear hx ha hsys st0
  go_enter Try.func96, Try.ntmps96
  go_wp2_with fail
  refine (rank_bel _).mono ?_
  rintro e w1 ⟨rfl, bel⟩
  obtain ⟨vals0, st1⟩ := (S0.out.go bel).addRows (below1 _ _) (ownSS_make w1 N 31 (by unfold maxLen; omega)) (Nat.le_refl _) (by simp)
  clear hbc
  have hbc := (st1.blk (i := 0) rfl).cell (i := 0) rfl
  have S1 := Lib.hid st1
  clear bel S0 st1
  go_wp2
  clear hmkr
  go_loopw [14] (fun v wr => ∃ (r : Nat) (vals : List Value), r ≤ N ∧ v = .int .i64 r ∧ St w wr (imopPs w.heap.size w1.heap.size N (.slice (some ⟨b, o, none⟩) N c) vals (rwTo (mvS (2 * n) xss) N r []))) (fun v _ => N - (intOf v).toNat)
  case atStart => exact ⟨0, vals0, Nat.zero_le _, rfl, by rw [rwTo_zero]; exact S1.out⟩
  case round =>
    obtain ⟨r, vals, hr, rfl, st⟩ := hrel
    clear S1
    clear hbc
    by_cases hrN : r < N
    · obtain ⟨b3, o3, A4, c4, mv, he, hmv, hcm0, hrd, hms⟩ := HA.out.row (k := r) (by rw [HX.out]; exact hrN)
      obtain ⟨rfl, rfl⟩ : b = b3 ∧ o = o3 := by simpa using he
      have hml : mv.length = n := by have := sys_len HS.out hmv; omega
      rw [hml] at hcm0
      have hcm := cell_be hcm0 st.below
      have HRD := Lib.hid hrd
      have HML := Lib.hid hml
      have HMV := Lib.hid hmv
      have HSV := Lib.hid (show (mvS (2 * n) xss)[r]? = some (mvL (2 * n) mv) by simp [mvS, hmv])
      have S2 := Lib.hid st
      have rI : (r : Int) < (N : Int) := by omega
      clear st he hmv hrd hms hml hcm0
      go_wp2
      clear hcm
      go_loopw [21] (fun v wr => ∃ (t : Nat) (vals : List Value), t ≤ n ∧ v = .int .i64 t ∧ St w wr (imopPs w.heap.size w1.heap.size N (.slice (some ⟨b, o, none⟩) N c) vals (rwTo (mvS (2 * n) xss) N r ((mvL (2 * n) mv).take (2 * t)))) ) (fun v _ => n - (intOf v).toNat)
      case atStart => exact ⟨0, vals, Nat.zero_le _, rfl, by simpa using S2.out⟩
      case round =>
        obtain ⟨t, vals, ht, rfl, st⟩ := hrel
        clear S2
        by_cases htn : t < n
        · obtain ⟨b2, o2, x, rfl, hxt, hcx⟩ := (HRD.out.keep st.below).int (k := t) (by rw [HML.out]; exact htn)
          obtain ⟨x, rfl, hx0⟩ := sys_at HS.out HMV.out hxt
          have j1 : IntKind.i64.wrap (2 * (x : Int)) = ((2 * x : Nat) : Int) := (IntWalk.i64_in _ (by omega)).trans (by omega)
          have j2 : IntKind.i64.wrap (((2 * x : Nat) : Int) + 1) = ((2 * x + 1 : Nat) : Int) := (IntWalk.i64_in _ (by omega)).trans (by omega)
          have htwo := mvL_two htn hxt
          rw [show (2 * (x : Int)) = ((2 * x : Nat) : Int) by omega, show (((2 * x : Nat) : Int) + 1) = ((2 * x + 1 : Nat) : Int) by omega] at htwo
          obtain ⟨p, hp⟩ : ∃ p, 2 * x = p := ⟨_, rfl⟩
          obtain ⟨q, hq⟩ : ∃ q, 2 * x + 1 = q := ⟨_, rfl⟩
          rw [hp, show p + 1 = q by omega] at htwo
          rw [hp] at j1 j2
          rw [show p + 1 = q by omega] at j2
          obtain ⟨row, hrow⟩ : ∃ row, (mvL (2 * n) mv).take (2 * t) = row := ⟨_, rfl⟩
          rw [hrow] at htwo st
          have hrl : row.length = 2 * t := by rw [← hrow, List.length_take, mvL_len]; omega
          obtain ⟨m, hm⟩ : ∃ m, 2 * t = m := ⟨_, rfl⟩
          rw [hm] at hrl
          have hm8 : m ≤ 800 := by omega
          have hra : (rwTo (mvS (2 * n) xss) N r row)[r]? = some row := rwTo_at hrN
          obtain ⟨A1, c1r, hv, ow⟩ := st.rowAt (i := 1) (k := r) rfl hra
          rw [hrl] at hv ow
          have hc1 := own_cell (st.rows (i := 1) rfl) hv
          have hlo := st.lo
          have HTWO := Lib.hid htwo
          have HRA := Lib.hid hra
          have HV := Lib.hid (show vals[r]? = some (Value.slice A1 row.length c1r) by rw [hrl]; exact hv)
          have HCAT := Lib.hid (show ints (row ++ [(p : Int), (q : Int)]) = ints row ++ [.int .i64 (p : Int), .int .i64 (q : Int)] by simp)
          have HLEN := Lib.hid (show (row ++ [(p : Int), (q : Int)]).length = m + 2 by simp [hrl])
          have HRL := Lib.hid hrl
          have HM := Lib.hid hm
          have HUS := Lib.hid (cell_lit2 wr (.int .i64 (p : Int)) (.int .i64 (q : Int)) 2)
          have HONE := Lib.hid (one_lit2 (show (.int .i64 (p : Int) : Value).oneCell' = true from rfl) (show (.int .i64 (q : Int) : Value).oneCell' = true from rfl))
          have HOWN := Lib.hid (ow.alloc (.cells #[.int .i64 (p : Int), .int .i64 (q : Int)] 2))
          have hlo2 : w.heap.size ≤ (wr.alloc (.cells #[.int .i64 (p : Int), .int .i64 (q : Int)] 2)).heap.size := by simp; omega
          have S3 := Lib.hid st
          clear st hxt hx0 htwo hp hq hrow hrl hm hra hv ow
          go_wp2_with (at_builtin; refine wpList_cat_at _ rfl (.tmp 30) (.tmp 36) 31 2 rfl Try.underlying31 (.int .i64 0) 8 Try.info2 rfl w.heap.size (.slice A1 m c1r) _ _ rfl HOWN.out ⟨wr.heap.size, 0, none⟩ 2 2 [.int .i64 (p : Int), .int .i64 (q : Int)] rfl rfl HUS.out HONE.out (by omega) (by omega) hlo2 ?_)
          intro A7 c7 w7 own7 gr7 hat7
          obtain ⟨NS, fz, cl⟩ := S3.out.rowTurn (i := 1) rfl (by decide) HRA.out HV.out (below1 _ _) HLEN.out (by rw [HCAT.out]; exact own7) (by rw [HRL.out]; exact gr7) (by rw [HRL.out]; exact hat_of (by simpa using hat7))
          rw [HRL.out] at cl
          have S6 := Lib.hid (show St w (w7.setCell ⟨w1.heap.size, r, none⟩ (.slice A7 (m + 2) c7)) (imopPs w.heap.size w1.heap.size N (.slice (some ⟨b, o, none⟩) N c) (vals.set r (.slice A7 (m + 2) c7)) (rwTo (mvS (2 * n) xss) N r ((mvL (2 * n) mv).take (2 * (t + 1))))) from by
            rw [HTWO.out, ← rwTo_set hrN]
            exact NS)
          clear NS own7 gr7 hat7
          go_wp2
          go_roundw
          case rel => exact ⟨t + 1, _, by omega, by go_num, S6.out⟩
          case measure => simp [intOf]; omega
        · obtain rfl : t = n := by omega
          rw [List.take_of_length_le (l := mvL (2 * t) mv) (by rw [mvL_len]; exact Nat.le_refl _), rwTo_next HSV.out] at st
          have S7 := Lib.hid st
          clear st
          go_wp2
          go_roundw
          case rel => exact ⟨r + 1, _, by omega, by go_num, S7.out⟩
          case measure => simp [intOf]; omega
    · obtain rfl : r = N := by omega
      rw [rwTo_all HSL.out] at st
      have S7 := Lib.hid st
      clear st
      go_wp2
      go_ret
      exact ⟨_, vals, rfl, S7.out.pick (fun i => i + 1) (fun i hi => by simp at hi ⊢; omega) (fun i hi => by match i, hi with | 0, _ => rfl) (fun i j _ _ h => by omega)⟩
end Go.Proofs.Ytmikoihpmhfafaa
