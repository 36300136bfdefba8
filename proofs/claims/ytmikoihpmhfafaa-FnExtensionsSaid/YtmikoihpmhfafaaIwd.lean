/- impl.dualWords, petrieWords, oppositeWords, holeWords, halfWords (written by giwd.py). -/
import Derived.Test.YtmikoihpmhfafaaIdn
import Derived.Test.YtmikoihpmhfafaaHo
namespace Go.Proofs.Ytmikoihpmhfafaa
open Go.RowKit

theorem unitL_rev (N : Nat) : (unitL N).reverse.map (fun x => [x]) = dualW N := by
  apply List.ext_getElem?
  intro j
  by_cases h : j < N
  · rw [List.getElem?_map, List.getElem?_reverse (by simpa [unitL] using h)]
    simp [unitL, dualW, h, show N - 1 - j < N by omega]
  · rw [List.getElem?_eq_none (by simp [unitL]; omega), List.getElem?_eq_none (by rw [dualW_len]; omega)]
theorem unitL_sgl (N : Nat) : (unitL N).map (fun x => [x]) = sglW N := by simp [unitL, sglW]
theorem unitL_length (N : Nat) : (unitL N).length = N := by simp [unitL]
theorem unitL_at {N k : Nat} (h : k < N) : (unitL N)[k]? = some (k : Int) := by simp [unitL, h]
theorem cell_lit1 (w : World) (u : Value) (e : TypeId) : ∀ (j : Nat) (v : Value), [u][j]? = some v → (w.alloc (.cells #[u] e)).cell? ((⟨w.heap.size, 0, none⟩ : Addr).add j) = some v := by
  intro j v hj
  match j, hj with
  | 0, hj => injection hj with hj; subst hj; simp [Addr.add]
theorem cell_lit2 (w : World) (u v : Value) (e : TypeId) : ∀ (j : Nat) (x : Value), [u, v][j]? = some x → (w.alloc (.cells #[u, v] e)).cell? ((⟨w.heap.size, 0, none⟩ : Addr).add j) = some x := by
  intro j x hj
  match j, hj with
  | 0, hj => injection hj with hj; subst hj; simp [Addr.add]
  | 1, hj => injection hj with hj; subst hj; simp [Addr.add]
theorem cell_old1 {w : World} {g p : Nat} {u : Value} (h : w.cell? ⟨g, p, none⟩ = some u) (x : Obj) : ∀ (j : Nat) (v : Value), [u][j]? = some v → (w.alloc x).cell? ((⟨g, p, none⟩ : Addr).add j) = some v := by
  intro j v hj
  match j, hj with
  | 0, hj => injection hj with hj; subst hj; simpa [Addr.add] using cell_al h x
theorem one_lit1 {u : Value} (h : u.oneCell' = true) : ∀ v ∈ [u], v.oneCell' = true := by
  intro v hv
  simp at hv
  subst hv
  exact h
theorem one_lit2 {u x : Value} (h : u.oneCell' = true) (h2 : x.oneCell' = true) : ∀ v ∈ [u, x], v.oneCell' = true := by
  intro v hv
  simp at hv
  rcases hv with rfl | rfl
  · exact h
  · exact h2

set_option maxHeartbeats 800000 in
theorem idualW_any (N : Nat) (k : Int) (w : World) (h1 : 1 ≤ N) (hN : N ≤ 5) :
    Calls Try.prog 200 #[.int .i64 N, .int .i64 k] w (WdsP w (dualW N) N) := by
  have HU := Lib.hid (show ((unitL N).reverse).length = N by simp [unitL])
  go_enter Try.func200, Try.ntmps200
  go_wp2_with fail
  refine (ident_any N _ (by omega)).mono ?_
  rintro e w1 ⟨rfl, st1⟩
  have S1 := Lib.hid st1
  clear st1
  go_wp2_with fail
  refine (reverse_any _ (S1.out.own (i := 0) rfl) (by omega) h1).mono ?_
  rintro e w2 ⟨rfl, own2, gr2⟩
  have S2 := Lib.hid (S1.out.turn (i := 0) rfl (Below.refl _ _) own2 gr2 (.inl rfl))
  clear own2 gr2 S1
  go_wp2_with fail
  refine (singles_any _ (by omega) (Nat.le_refl _)).mono ?_
  rintro e w3 ⟨rfl, st3⟩
  have S3 := Lib.hid (S2.out.join st3)
  clear st3 S2
  go_wp2
  go_ret
  refine ⟨_, _, rfl, ?_, S3.out.below⟩
  rw [← unitL_rev]
  exact rdSS_of (own_rd (S3.out.own (i := 1) rfl)) (rows_sg HU.out (own_rd (S3.out.own (i := 0) rfl)))


set_option maxHeartbeats 800000 in
theorem ipetW_any (k : Int) (w : World) {N : Nat} (h3 : 3 ≤ N) (hN : N ≤ 5) :
    Calls Try.prog 201 #[.int .i64 N, .int .i64 k] w (WdsP w (petW N) N) := by
  obtain ⟨s, hs⟩ : ∃ s, N - 3 = s := ⟨_, rfl⟩
  obtain ⟨d, hd⟩ : ∃ d, N - 3 = d := ⟨_, rfl⟩
  obtain rfl : s = d := by omega
  obtain ⟨q, hq⟩ : ∃ q, N - 1 = q := ⟨_, rfl⟩
  have jp : IntKind.i64.wrap ((N : Int) - 3) = (s : Int) := (IntWalk.i64_in _ (by omega)).trans (by omega)
  have jq : IntKind.i64.wrap ((N : Int) - 1) = (q : Int) := (IntWalk.i64_in _ (by omega)).trans (by omega)
  have HPT := Lib.hid (show ((unitL N).map fun x => [x]).set s [(s : Int), (q : Int)] = petW N by rw [unitL_sgl, petW, hs, hq])
  have hsN : s < N := by omega
  have hdN : s < N := hsN
  have sI : (s : Int) < (N : Int) := by omega
  clear hs hd hq
  go_enter Try.func201, Try.ntmps201
  go_wp2_with fail
  refine (ident_any N _ (by omega)).mono ?_
  rintro e w1 ⟨rfl, st1⟩
  have S1 := Lib.hid st1
  clear st1
  go_wp2_with fail
  refine (singles_any _ (by omega) (Nat.le_refl _)).mono ?_
  rintro e w2 ⟨rfl, st2⟩
  have S2 := Lib.hid (S1.out.join st2)
  have c1 := own_cell (S2.out.own (i := 1) rfl) (sgV_at (g := w.heap.size) hsN)
  have HOLD := Lib.hid (cell_old1 (own_cell (S2.out.own (i := 0) rfl) (show (ints (unitL N))[s]? = some (.int .i64 (s : Int)) by simp [unitL_at hsN])) (.cells #[.int .i64 (q : Int)] 2))
  have HUS := Lib.hid (cell_lit1 w2 (.int .i64 (q : Int)) 2)
  have HONE := Lib.hid (one_lit1 (show (.int .i64 (q : Int) : Value).oneCell' = true from rfl))
  clear st2 S1
  go_wp2_with (at_builtin; refine wpList_grow _ rfl (.tmp 16) (.tmp 19) 31 2 rfl Try.underlying31 (.int .i64 0) 8 Try.info2 rfl ⟨w.heap.size, s, none⟩ 1 1 [.int .i64 (s : Int)] rfl rfl HOLD.out ⟨w2.heap.size, 0, none⟩ 1 1 [.int .i64 (q : Int)] rfl rfl HUS.out HONE.out (by decide) (by decide) (by decide) ?_)
  intro A4 c4 w4 own4 bel4
  have st4 := (S2.out.al (.cells #[.int .i64 (q : Int)] 2)).addOwn (by simpa using bel4) own4 (by simp)
  obtain ⟨g4, rfl⟩ := own_shape own4 (by decide)
  clear c1
  have c1 := own_cell (st4.own (i := 1) rfl) (sgV_at (g := w.heap.size) hdN)
  have f1 := (st4.own (i := 1) rfl).frozenAt s
  have S5 := Lib.hid (st4.store (i := 1) rfl s (.slice (some ⟨g4, 0, none⟩) 2 c4))
  clear own4 bel4 st4 S2
  go_wp2
  go_ret
  refine ⟨_, _, rfl, ?_, S5.out.below⟩
  rw [← HPT.out]
  exact rdSS_of (own_rd (S5.out.own (i := 1) rfl)) ((rows_sg (unitL_length N) (own_rd (S5.out.own (i := 0) rfl))).set (p := s) (c := c4) (own_rd (S5.out.own (i := 2) rfl)) rfl (by decide))


set_option maxHeartbeats 800000 in
theorem ioppW_any (k : Int) (w : World)  :
    Calls Try.prog 202 #[.int .i64 3, .int .i64 k] w (WdsP w op5W 3) := by
  have HPT := Lib.hid (show ((unitL 3).map fun x => [x]).set 2 [(0 : Int), 2] = op5W by rfl)
  go_enter Try.func202, Try.ntmps202
  go_wp2_with fail
  refine (ident_any 3 _ (by omega)).mono ?_
  rintro e w1 ⟨rfl, st1⟩
  have S1 := Lib.hid st1
  clear st1
  go_wp2_with fail
  refine (singles_any _ (by omega) (Nat.le_refl _)).mono ?_
  rintro e w2 ⟨rfl, st2⟩
  have S2 := Lib.hid (S1.out.join st2)
  have c1 := own_cell (S2.out.own (i := 1) rfl) (sgV_at (g := w.heap.size) (show 0 < 3 by decide))
  have HOLD := Lib.hid (cell_old1 (own_cell (S2.out.own (i := 0) rfl) (show (ints (unitL 3))[0]? = some (.int .i64 0) by rfl)) (.cells #[.int .i64 2] 2))
  have HUS := Lib.hid (cell_lit1 w2 (.int .i64 2) 2)
  have HONE := Lib.hid (one_lit1 (show (.int .i64 2 : Value).oneCell' = true from rfl))
  clear st2 S1
  go_wp2_with (at_builtin; refine wpList_grow _ rfl (.tmp 12) (.tmp 13) 31 2 rfl Try.underlying31 (.int .i64 0) 8 Try.info2 rfl ⟨w.heap.size, 0, none⟩ 1 1 [.int .i64 0] rfl rfl HOLD.out ⟨w2.heap.size, 0, none⟩ 1 1 [.int .i64 2] rfl rfl HUS.out HONE.out (by decide) (by decide) (by decide) ?_)
  intro A4 c4 w4 own4 bel4
  have st4 := (S2.out.al (.cells #[.int .i64 2] 2)).addOwn (by simpa using bel4) own4 (by simp)
  obtain ⟨g4, rfl⟩ := own_shape own4 (by decide)
  clear c1
  have c1 := own_cell (st4.own (i := 1) rfl) (sgV_at (g := w.heap.size) (show 2 < 3 by decide))
  have f1 := (st4.own (i := 1) rfl).frozenAt 2
  have S5 := Lib.hid (st4.store (i := 1) rfl 2 (.slice (some ⟨g4, 0, none⟩) 2 c4))
  clear own4 bel4 st4 S2
  go_wp2
  go_ret
  refine ⟨_, _, rfl, ?_, S5.out.below⟩
  rw [← HPT.out]
  exact rdSS_of (own_rd (S5.out.own (i := 1) rfl)) ((rows_sg (unitL_length 3) (own_rd (S5.out.own (i := 0) rfl))).set (p := 2) (c := c4) (own_rd (S5.out.own (i := 2) rfl)) rfl (by decide))


set_option maxHeartbeats 800000 in
theorem ihalfW_any (m k : Int) (w : World) :
    Calls Try.prog 204 #[.int .i64 m, .int .i64 k] w (WdsP w ha5W 3) := by
  have st2 := ((((St.start w).addBlk #[.int .i64 0, .int .i64 1, .int .i64 0] 2).addBlk #[.int .i64 2] 2).addBlk #[.int .i64 1] 2).addBlk #[.slice (some ⟨w.heap.size, 0, none⟩) 3 3, .slice (some ⟨w.heap.size + 1, 0, none⟩) 1 1, .slice (some ⟨w.heap.size + 1 + 1, 0, none⟩) 1 1] 31
  simp at st2
  have S2 := Lib.hid st2
  have HRD := Lib.hid (rdSS3 (a := [0, 1, 0]) (b := [2]) (c := [1]) (st2.blk (i := 3) rfl) (rd_blk (st2.blk (i := 0) rfl)) (rd_blk (st2.blk (i := 1) rfl)) (rd_blk (st2.blk (i := 2) rfl)) rfl rfl rfl (by decide))
  clear st2
  go_enter Try.func204, Try.ntmps204
  go_wp2
  go_ret
  exact ⟨_, _, rfl, HRD.out, S2.out.below⟩

set_option maxHeartbeats 1600000 in
theorem iholeW_any (k : Nat) (w : World) (h1 : 1 ≤ k) (hk : k ≤ 20) :
    Calls Try.prog 203 #[.int .i64 3, .int .i64 k] w (WdsP w (holW k) 3) := by
  obtain ⟨K, hK⟩ : ∃ K, k - 1 = K := ⟨_, rfl⟩
  have jk : IntKind.i64.wrap ((k : Int) - 1) = (K : Int) := (IntWalk.i64_in _ (by omega)).trans (by omega)
  have hK19 : K ≤ 19 := by omega
  have HH := Lib.hid (show holW k = ((unitL 3).map fun x => [x]).set 1 (hwL K) by rw [holW, hK]; rfl)
  have H0 := Lib.hid (show (unitL 3).map (fun x => [x]) = ((unitL 3).map fun x => [x]).set 1 (hwL 0) by rfl)
  clear hK h1 hk
  go_enter Try.func203, Try.ntmps203
  go_wp2_with fail
  refine (ident_any 3 _ (by omega)).mono ?_
  rintro e w1 ⟨rfl, st1⟩
  have S1 := Lib.hid st1
  clear st1
  go_wp2_with fail
  refine (singles_any _ (by omega) (Nat.le_refl _)).mono ?_
  rintro e w2 ⟨rfl, st2⟩
  have S2 := Lib.hid (S1.out.join st2)
  clear st2 S1
  go_wp2
  go_loopw [11] (fun v wr => ∃ (t c6 : Nat) (A6 : Option Addr) (vals vs6 : List Value) (m6 : Nat), t ≤ K ∧ v = .int .i64 (t : Int) ∧ vals[1]? = some (.slice A6 (1 + 2 * t) c6) ∧ vals.length = 3 ∧ St w wr [.own 2 (some ⟨w.heap.size, 0, none⟩) 3 3 (ints (unitL 3)), .own 31 (some ⟨w1.heap.size, 0, none⟩) 3 3 vals, .own 2 (if t = 0 then none else A6) m6 (if t = 0 then 0 else c6) vs6] ∧
    (t = 0 → A6 = some ⟨w.heap.size, 1, none⟩ ∧ c6 = 1 ∧ m6 = 0 ∧ vs6 = [] ∧ vals = sgV w.heap.size 3) ∧ (t ≠ 0 → m6 = 1 + 2 * t ∧ vs6 = ints (hwL t) ∧ vals = (sgV w.heap.size 3).set 1 (.slice A6 (1 + 2 * t) c6))) (fun v _ => K - (intOf v).toNat)
  case atStart => exact ⟨0, 1, some ⟨w.heap.size, 1, none⟩, sgV w.heap.size 3, [], 0, Nat.zero_le _, rfl, rfl, rfl, S2.out.addNil _, fun _ => ⟨rfl, rfl, rfl, rfl, rfl⟩, fun h => absurd rfl h⟩
  case round =>
    obtain ⟨t, c6, A6, vals, vs6, m6, ht, rfl, hv1, hvl, st, hz, hp⟩ := hrel
    clear S2
    by_cases htk : t < K
    · have tI : (t : Int) < (K : Int) := by omega
      have c1 := own_cell (st.own (i := 1) rfl) hv1
      have HUS := Lib.hid (cell_lit2 wr (.int .i64 2) (.int .i64 1) 2)
      have HONE := Lib.hid (one_lit2 (show (.int .i64 2 : Value).oneCell' = true from rfl) (show (.int .i64 1 : Value).oneCell' = true from rfl))
      have HV := Lib.hid hv1
      have HVL := Lib.hid hvl
      have S3 := Lib.hid st
      have hlo := st.lo
      have hlo2 : w.heap.size ≤ (wr.alloc (.cells #[.int .i64 2, .int .i64 1] 2)).heap.size := by simp; omega
      clear hv1 hvl st
      by_cases h0 : t = 0
      · subst h0
        obtain ⟨rfl, rfl, rfl, rfl, rfl⟩ := hz rfl
        have HOLD := Lib.hid (cell_old1 (own_cell (S3.out.own (i := 0) rfl) (show (ints (unitL 3))[1]? = some (.int .i64 1) by rfl)) (.cells #[.int .i64 2, .int .i64 1] 2))
        clear hz hp hlo2
        go_wp2_with (at_builtin; refine wpList_grow _ rfl (.tmp 16) (.tmp 17) 31 2 rfl Try.underlying31 (.int .i64 0) 8 Try.info2 rfl ⟨w.heap.size, 1, none⟩ 1 1 [.int .i64 1] rfl rfl HOLD.out ⟨wr.heap.size, 0, none⟩ 2 2 [.int .i64 2, .int .i64 1] rfl rfl HUS.out HONE.out (by decide) (by decide) (by decide) ?_)
        intro A4 c4 w4 own4 bel4
        have st4 := ((S3.out.take 2).al (.cells #[.int .i64 2, .int .i64 1] 2)).addOwn (by simpa using bel4) own4 (by simp)
        obtain ⟨g4, rfl⟩ := own_shape own4 (by decide)
        clear c1
        have c1 := own_cell (st4.own (i := 1) rfl) HV.out
        have f1 := (st4.own (i := 1) rfl).frozenAt 1
        have S5 := Lib.hid (st4.store (i := 1) rfl 1 (.slice (some ⟨g4, 0, none⟩) 3 c4))
        clear own4 bel4 st4 S3 HV HVL
        go_wp2
        go_roundw
        case rel => exact ⟨1, c4, some ⟨g4, 0, none⟩, _, _, 3, by omega, by go_num, rfl, rfl, S5.out, fun h => by omega, fun _ => ⟨rfl, rfl, rfl⟩⟩
        case measure => simp [intOf]; omega
      · obtain ⟨rfl, rfl, rfl⟩ := hp h0
        rw [if_neg h0, if_neg h0] at S3
        have HOWN := Lib.hid ((S3.out.own (i := 2) rfl).alloc (.cells #[.int .i64 2, .int .i64 1] 2))
        clear hz hp h0
        go_wp2_with (at_builtin; refine wpList_cat_at _ rfl (.tmp 16) (.tmp 17) 31 2 rfl Try.underlying31 (.int .i64 0) 8 Try.info2 rfl w.heap.size (.slice A6 (1 + 2 * t) c6) _ _ rfl HOWN.out ⟨wr.heap.size, 0, none⟩ 2 2 [.int .i64 2, .int .i64 1] rfl rfl HUS.out HONE.out (by omega) (by omega) hlo2 ?_)
        intro A7 c7 w7 own7 gr7 hat7
        have st7 : St w w7 [.own 2 (some ⟨w.heap.size, 0, none⟩) 3 3 (ints (unitL 3)), .own 31 (some ⟨w1.heap.size, 0, none⟩) 3 3 ((sgV w.heap.size 3).set 1 (.slice A6 (1 + 2 * t) c6)), .own 2 A7 (1 + 2 * (t + 1)) c7 (ints (hwL (t + 1)))] := by
          have e1 : 1 + 2 * (t + 1) = 1 + 2 * t + 2 := by omega
          have e2 : ints (hwL (t + 1)) = ints (hwL t) ++ [.int .i64 2, .int .i64 1] := by simp [hwL]
          rw [e1, e2]
          exact S3.out.turn (i := 2) rfl (below1 _ _) own7 gr7 (hat_of (by simpa using hat7))
        clear c1
        have c1 := own_cell (st7.own (i := 1) rfl) HV.out
        have f1 := (st7.own (i := 1) rfl).frozenAt 1
        have S8 := Lib.hid (st7.store (i := 1) rfl 1 (.slice A7 (1 + 2 * t + 2) c7))
        have S9 := Lib.hid (show St w _ [.own 2 (some ⟨w.heap.size, 0, none⟩) 3 3 (ints (unitL 3)), .own 31 (some ⟨w1.heap.size, 0, none⟩) 3 3 ((sgV w.heap.size 3).set 1 (.slice A7 (1 + 2 * (t + 1)) c7)), .own 2 A7 (1 + 2 * (t + 1)) c7 (ints (hwL (t + 1)))] from by
          have h := S8.out
          rw [show 1 + 2 * (t + 1) = 1 + 2 * t + 2 by omega] at h ⊢
          simpa using h)
        clear own7 gr7 hat7 st7 S3 HV HVL S8 HOWN
        go_wp2
        go_roundw
        case rel => exact ⟨t + 1, c7, A7, _, _, 1 + 2 * (t + 1), by omega, by go_num, by simp [sgV], by simp [sgV], by simpa using S9.out, fun h => by omega, fun _ => ⟨rfl, rfl, rfl⟩⟩
        case measure => simp [intOf]; omega
    · obtain rfl : t = K := by omega
      have tI : ¬ (t : Int) < (t : Int) := by omega
      have S3 := Lib.hid st
      have HZ := Lib.hid hz
      have HP := Lib.hid hp
      clear st hz hp hv1 hvl
      go_wp2
      go_ret
      refine ⟨_, _, rfl, ?_, S3.out.below⟩
      rw [HH.out]
      by_cases h0 : t = 0
      · obtain ⟨rfl, rfl, rfl, rfl, rfl⟩ := HZ.out h0
        subst h0
        rw [← H0.out]
        exact rdSS_of (own_rd (S3.out.own (i := 1) rfl)) (rows_sg (unitL_length 3) (own_rd (S3.out.own (i := 0) rfl)))
      · obtain ⟨rfl, rfl, rfl⟩ := HP.out h0
        have st := S3.out
        rw [if_neg h0, if_neg h0] at st
        exact rdSS_of (own_rd (st.own (i := 1) rfl)) ((rows_sg (unitL_length 3) (own_rd (st.own (i := 0) rfl))).set (p := 1) (c := c6) (own_rd (st.own (i := 2) rfl)) (hwL_len t) (by omega))
end Go.Proofs.Ytmikoihpmhfafaa
