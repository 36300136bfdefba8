/- spec.l02Polygon. -/
import Derived.Test.YtckmmgepoccopaaDrw
import Derived.Test.YtckmmgepoccopaaIsm
namespace Go.Proofs.Ytckmmgepoccopaa
open Go.RowKit

/-- Rows out of a literal of two slices. -/
theorem St.rowLit2 {w0 w : World} {Ps : List Pc} {i j t m m' c c' : Nat} {A A' : Option Addr} {xs ys : List Int} (h : St w0 w Ps) (hi : Ps[i]? = some (.own t A m c (ints xs))) (hj : Ps[j]? = some (.own t A' m' c' (ints ys))) (hij : i ≠ j) (hm : xs.length = m) (hm' : ys.length = m') (e : Nat) :
    St w0 (w.alloc (.cells #[.slice A m c, .slice A' m' c'] e)) (((Ps.set i .emp).set j .emp) ++ [.rows t e (some ⟨w.heap.size, 0, none⟩) 2 2 [.slice A m c, .slice A' m' c'] [xs, ys]]) := by
  have hil := (List.getElem?_eq_some_iff.1 hi).1
  have hjl := (List.getElem?_eq_some_iff.1 hj).1
  have h1 := h.addLit2 (.slice A m c) (.slice A' m' c') e
  have hbel := h1.below
  obtain ⟨Fs, g1, g2, g3⟩ := h1.sep
  have hlen : (Ps ++ [Pc.own e (some ⟨w.heap.size, 0, none⟩) 2 2 [.slice A m c, .slice A' m' c']]).length = Ps.length + 1 := by simp
  have p0 := g1 Ps.length _ (last_at _ _)
  have p1 := g1 i _ (by rw [List.getElem?_append_left hil]; exact hi)
  have p2 := g1 j _ (by rw [List.getElem?_append_left hjl]; exact hj)
  refine ⟨⟨fun k b => if k = i ∨ k = j then False else if k = Ps.length then Fs i b ∨ Fs j b ∨ Fs Ps.length b else Fs k b, fun k P hk => ?_, fun k b hk hb => ?_, fun a b k ha hb hab hka hkb => ?_⟩, hbel⟩
  · by_cases hki : k = i ∨ k = j
    · have hP : P = .emp := by
        have hkl : k < Ps.length := by rcases hki with rfl | rfl <;> assumption
        rw [List.getElem?_append_left (by simpa using hkl)] at hk
        by_cases hkj : k = j
        · subst hkj
          rw [List.getElem?_set_self (by simpa using hkl)] at hk
          injection hk with hk
          exact hk.symm
        · rw [List.getElem?_set_ne (fun e => hkj e.symm)] at hk
          obtain rfl : k = i := hki.resolve_right hkj
          rw [List.getElem?_set_self hkl] at hk
          injection hk with hk
          exact hk.symm
      subst hP
      trivial
    · simp only [if_neg hki]
      by_cases hkl : k = Ps.length
      · subst hkl
        have hP : P = .rows t e (some ⟨w.heap.size, 0, none⟩) 2 2 [.slice A m c, .slice A' m' c'] [xs, ys] := by
          have := last_at2 (Ps := Ps.set i .emp) (.rows t e (some ⟨w.heap.size, 0, none⟩) 2 2 [.slice A m c, .slice A' m' c'] [xs, ys]) .emp j
          rw [List.length_set] at this
          rw [this] at hk
          injection hk with hk
          exact hk.symm
        subst hP
        simp only [if_true]
        subst hm
        subst hm'
        refine ⟨p0.1, fun b hb => .inr (.inr (p0.2 b hb)), rfl, fun k zs hk => ?_, fun a b u v hab hu hv x hux hvx => ?_⟩
        · match k, hk with
          | 0, hk =>
            injection hk with hk
            subst hk
            exact ⟨A, c, rfl, p1.1, fun b hb => .inl (p1.2 b hb)⟩
          | 1, hk =>
            injection hk with hk
            subst hk
            exact ⟨A', c', rfl, p2.1, fun b hb => .inr (.inl (p2.2 b hb))⟩
        · have h1 := (List.getElem?_eq_some_iff.1 hu).1
          have h2 := (List.getElem?_eq_some_iff.1 hv).1
          simp at h1 h2
          have hdis : ∀ x, Fs i x → ¬ Fs j x := fun x => g3 i j x (by omega) (by omega) hij
          match a, b, hu, hv with
          | 0, 0, _, _ => exact hab rfl
          | 0, 1, hu, hv =>
            injection hu with hu
            injection hv with hv
            subst hu
            subst hv
            exact hdis x (p1.2 x hux) (p2.2 x hvx)
          | 1, 0, hu, hv =>
            injection hu with hu
            injection hv with hv
            subst hu
            subst hv
            exact hdis x (p1.2 x hvx) (p2.2 x hux)
          | 1, 1, _, _ => exact hab rfl
      · simp only [if_neg hkl]
        have hk2 := (List.getElem?_eq_some_iff.1 hk).1
        simp at hk2
        refine g1 k P ?_
        rw [List.getElem?_append_left (by simp; omega), List.getElem?_set_ne (fun e => hki (.inr e.symm)), List.getElem?_set_ne (fun e => hki (.inl e.symm))] at hk
        rw [List.getElem?_append_left (by omega)]
        exact hk
  · simp at hk
    by_cases hki : k = i ∨ k = j
    · simp only [if_pos hki] at hb
    · simp only [if_neg hki] at hb
      by_cases hkl : k = Ps.length
      · simp only [if_pos hkl] at hb
        rcases hb with hb | hb | hb
        · exact g2 i b (by omega) hb
        · exact g2 j b (by omega) hb
        · exact g2 Ps.length b (by omega) hb
      · simp only [if_neg hkl] at hb
        exact g2 k b (by omega) hb
  · simp at ha hb
    by_cases h1 : a = i ∨ a = j
    · simp only [if_pos h1] at hka
    · by_cases h2 : b = i ∨ b = j
      · simp only [if_pos h2] at hkb
      · simp only [if_neg h1] at hka
        simp only [if_neg h2] at hkb
        by_cases h3 : a = Ps.length
        · have h4 : ¬ b = Ps.length := fun e => hab (h3.trans e.symm)
          simp only [if_pos h3] at hka
          simp only [if_neg h4] at hkb
          rcases hka with hka | hka | hka
          · exact g3 i b k (by omega) (by omega) (fun e => h2 (.inl e.symm)) hka hkb
          · exact g3 j b k (by omega) (by omega) (fun e => h2 (.inr e.symm)) hka hkb
          · exact g3 Ps.length b k (by omega) (by omega) (fun e => h4 e.symm) hka hkb
        · simp only [if_neg h3] at hka
          by_cases h4 : b = Ps.length
          · simp only [if_pos h4] at hkb
            rcases hkb with hkb | hkb | hkb
            · exact g3 a i k (by omega) (by omega) (fun e => h1 (.inl e)) hka hkb
            · exact g3 a j k (by omega) (by omega) (fun e => h1 (.inr e)) hka hkb
            · exact g3 a Ps.length k (by omega) (by omega) h3 hka hkb
          · simp only [if_neg h4] at hkb
            exact g3 a b k (by omega) (by omega) hab hka hkb

theorem St.swap12 {w0 w : World} {a b c : Pc} (h : St w0 w [a, b, c]) : St w0 w [a, c, b] :=
  h.pick (fun i => if i = 1 then 2 else if i = 2 then 1 else i) (fun i hi => by
    match i, hi with
    | 0, _ => simp
    | 1, _ => simp
    | 2, _ => simp) (fun i hi => by
    match i, hi with
    | 0, _ => rfl
    | 1, _ => rfl
    | 2, _ => rfl) (fun i j hi hj h => by
    simp at hi hj ⊢
    split <;> split <;> (try split) <;> (try split) <;> omega)
theorem pg2_even {n f : Nat} (hf : f < n) (he : f % 2 = 0) : ((f : Int) + (n : Int) - 1) % (n : Int) = (pg2 n f : Nat) := by
  unfold pg2
  rw [if_pos he]
  by_cases h0 : f = 0
  · subst h0
    rw [if_pos rfl, Int.emod_eq_of_lt (by omega) (by omega)]
    omega
  · rw [if_neg h0]
    have e : (f : Int) + (n : Int) - 1 = ((f - 1 : Nat) : Int) + (n : Int) := by omega
    rw [e, Int.add_emod_right, Int.emod_eq_of_lt (by omega) (by omega)]
theorem pg2_odd {n f : Nat} (hf : f < n) (he : ¬ f % 2 = 0) : ((f : Int) + 1) % (n : Int) = (pg2 n f : Nat) := by
  unfold pg2
  rw [if_neg he]
  by_cases h0 : f + 1 = n
  · rw [if_pos h0]
    have e : (f : Int) + 1 = (n : Int) := by omega
    rw [e, Int.emod_self]
    rfl
  · rw [if_neg h0, Int.emod_eq_of_lt (by omega) (by omega)]
    omega

set_option maxRecDepth 8000 in
set_option maxHeartbeats 3200000 in
theorem polyg_any {p n : Nat} (w : World) (hp : 1 ≤ p) (hn : n = 2 * p) (hn4 : n ≤ 400) :
    Calls Try.prog 87 #[.int .i64 p] w fun e w' => ∃ (A' : Option Addr) (c' : Nat) (vals : List Value), e = .returned (.agg #[.slice A' 2 c']) ∧ St w w' [.rows 2 28 A' 2 c' vals (pgL n)] := by
  obtain ⟨L1, hL1⟩ : ∃ L, L = (List.range n).map fun x => ((pg1 x : Nat) : Int) := ⟨_, rfl⟩
  obtain ⟨L2, hL2⟩ : ∃ L, L = (List.range n).map fun x => ((pg2 n x : Nat) : Int) := ⟨_, rfl⟩
  have hpg : pgL n = [L1, L2] := by rw [hL1, hL2]; rfl
  have l1 : L1.length = n := by rw [hL1]; simp
  have l2 : L2.length = n := by rw [hL2]; simp
  have a1 : ∀ f, f < n → L1[f]? = some ((pg1 f : Nat) : Int) := fun f hf => by rw [hL1]; simp [hf]
  have a2 : ∀ f, f < n → L2[f]? = some ((pg2 n f : Nat) : Int) := fun f hf => by rw [hL2]; simp [hf]
  rw [hpg]
  have LN1 := Lib.hid l1
  have LN2 := Lib.hid l2
  have A1 := Lib.hid a1
  have A2 := Lib.hid a2
  have hmk := run_make_row' (P := Try.prog) 28 2 (.int .i64 0) 8 Try.underlying28 Try.info2 rfl .i64 .i64 n (by omega) (by omega)
  have hmul : 2 * (p : Int) = (n : Int) := by omega
  have hn1 : 1 ≤ n := by omega
  have HN := Lib.hid hn
  have st0 := ((((St.start w).addBlk #[.slice none 0 0] 26).go (below_drewN (Below.refl _ _) 1)).addMake (.int .i64 0) n 2 (by unfold maxLen; omega)).addMake (.int .i64 0) n 2 (by unfold maxLen; omega)
  simp at st0
  have S0 := Lib.hid st0
  clear l1 l2 a1 a2 hpg hL1 hL2 st0 hn
  go_enter Try.func87, Try.ntmps87
  go_wp2
  go_region
  · have S1 := Lib.hid (show St w _ [.blk w.heap.size #[.slice none 0 0] 26, .own 2 (some ⟨w.heap.size + 1, 0, none⟩) n n (ints (flTo L1 n 0)), .own 2 (some ⟨w.heap.size + 1 + 1, 0, none⟩) n n (ints (flTo L2 n 0))] from by rw [flTo_zero, flTo_zero]; simpa [ints] using S0.out)
    obtain ⟨gF, hF⟩ : ∃ g, w.heap.size + 1 = g := ⟨_, rfl⟩
    obtain ⟨gS, hS⟩ : ∃ g, w.heap.size + 1 + 1 = g := ⟨_, rfl⟩
    rw [hS, hF] at S1
    go_wp2
    rw [hS, hF]
    clear hmk S0 hF hS
    go_loopw [6] (fun q wr => ∃ f : Nat, f ≤ n ∧ q = .int .i64 f ∧ St w wr [.blk w.heap.size #[.slice none 0 0] 26, .own 2 (some ⟨gF, 0, none⟩) n n (ints (flTo L1 n f)), .own 2 (some ⟨gS, 0, none⟩) n n (ints (flTo L2 n f))]) (fun q _ => n - (intOf q).toNat)
    case atStart => exact ⟨0, Nat.zero_le _, rfl, S1.out⟩
    case round =>
      obtain ⟨f, hf, rfl, st⟩ := hrel
      clear S1
      by_cases hfn : f < n
      · obtain ⟨u, hu⟩ := ints_at (xs := flTo L1 n f) (n := n) flTo_len hfn
        have c1 := own_cell (st.own (i := 1) rfl) hu
        have f1 := (st.own (i := 1) rfl).frozenAt f
        have st2 := st.store (i := 1) rfl f (.int .i64 ((pg1 f : Nat) : Int))
        rw [ints_set, flTo_step hfn (A1.out f hfn)] at st2
        obtain ⟨v, hv⟩ := ints_at (xs := flTo L2 n f) (n := n) flTo_len hfn
        have c2 := own_cell (st2.own (i := 2) rfl) hv
        have f2 := (st2.own (i := 2) rfl).frozenAt f
        have st3 := st2.store (i := 2) rfl f (.int .i64 ((pg2 n f : Nat) : Int))
        rw [ints_set, flTo_step hfn (A2.out f hfn)] at st3
        have fI : (f : Int) < (n : Int) := by omega
        by_cases he : f % 2 = 0
        · have e1 : ((pg1 f : Nat) : Int) = (f : Int) + 1 := by unfold pg1; rw [if_pos he]; omega
          have e2 := pg2_even hfn he
          rw [← e2, e1] at st3
          rw [e1] at c2 f2
          have S3 := Lib.hid st3
          have hpar : (f : Int) % 2 = 0 := by omega
          clear st st2 st3 hu hv e1 e2 he
          go_wp2
          go_roundw
          case rel => exact ⟨f + 1, by omega, by go_num, S3.out⟩
          case measure => simp [intOf]; omega
        · have e1 : ((pg1 f : Nat) : Int) = (f : Int) - 1 := by unfold pg1; rw [if_neg he]; omega
          have e2 := pg2_odd hfn he
          rw [← e2, e1] at st3
          rw [e1] at c2 f2
          have S3 := Lib.hid st3
          have hpar : (f : Int) % 2 = 1 := by omega
          clear st st2 st3 hu hv e1 e2 he
          go_wp2
          go_roundw
          case rel => exact ⟨f + 1, by omega, by go_num, S3.out⟩
          case measure => simp [intOf]; omega
      · obtain rfl : f = n := by omega
        rw [flTo_all LN1.out, flTo_all LN2.out] at st
        have st2 := st.rowLit2 (i := 1) (j := 2) rfl rfl (by decide) LN1.out LN2.out 28
        have z0 := (st2.blk (i := 0) rfl).cell (i := 0) rfl
        have f0 := (st2.blk (i := 0) rfl).free 0
        have S3 := Lib.hid st2
        clear st st2
        go_wp2
        have st4 := S3.out.blkSet (i := 0) rfl 0 (.slice (some ⟨wr.heap.size, 0, none⟩) 2 2)
        have y0 := (st4.blk (i := 0) rfl).cell (i := 0) rfl
        refine bodyPost_ret (v := .agg #[.slice (some ⟨wr.heap.size, 0, none⟩) 2 2]) (by simp [results, Try.results87, go_sem, y0]) rfl ⟨_, 2, [.slice (some ⟨gF, 0, none⟩) f f, .slice (some ⟨gS, 0, none⟩) f f], rfl, ?_⟩
        exact st4.pick (fun i => i + 3) (fun i hi => by simp at hi ⊢; omega) (fun i hi => by match i, hi with | 0, _ => rfl) (fun i j _ _ h => by omega)
  · have S1 := Lib.hid (show St w _ [.blk w.heap.size #[.slice none 0 0] 26, .own 2 (some ⟨w.heap.size + 1 + 1, 0, none⟩) n n (ints (flTo L1 n 0)), .own 2 (some ⟨w.heap.size + 1, 0, none⟩) n n (ints (flTo L2 n 0))] from by rw [flTo_zero, flTo_zero]; simpa [ints] using S0.out.swap12)
    obtain ⟨gF, hF⟩ : ∃ g, w.heap.size + 1 + 1 = g := ⟨_, rfl⟩
    obtain ⟨gS, hS⟩ : ∃ g, w.heap.size + 1 = g := ⟨_, rfl⟩
    rw [hF, hS] at S1
    go_wp2
    rw [hF, hS]
    clear hmk S0 hF hS
    go_loopw [6] (fun q wr => ∃ f : Nat, f ≤ n ∧ q = .int .i64 f ∧ St w wr [.blk w.heap.size #[.slice none 0 0] 26, .own 2 (some ⟨gF, 0, none⟩) n n (ints (flTo L1 n f)), .own 2 (some ⟨gS, 0, none⟩) n n (ints (flTo L2 n f))]) (fun q _ => n - (intOf q).toNat)
    case atStart => exact ⟨0, Nat.zero_le _, rfl, S1.out⟩
    case round =>
      obtain ⟨f, hf, rfl, st⟩ := hrel
      clear S1
      by_cases hfn : f < n
      · obtain ⟨u, hu⟩ := ints_at (xs := flTo L1 n f) (n := n) flTo_len hfn
        have c1 := own_cell (st.own (i := 1) rfl) hu
        have f1 := (st.own (i := 1) rfl).frozenAt f
        have st2 := st.store (i := 1) rfl f (.int .i64 ((pg1 f : Nat) : Int))
        rw [ints_set, flTo_step hfn (A1.out f hfn)] at st2
        obtain ⟨v, hv⟩ := ints_at (xs := flTo L2 n f) (n := n) flTo_len hfn
        have c2 := own_cell (st2.own (i := 2) rfl) hv
        have f2 := (st2.own (i := 2) rfl).frozenAt f
        have st3 := st2.store (i := 2) rfl f (.int .i64 ((pg2 n f : Nat) : Int))
        rw [ints_set, flTo_step hfn (A2.out f hfn)] at st3
        have fI : (f : Int) < (n : Int) := by omega
        by_cases he : f % 2 = 0
        · have e1 : ((pg1 f : Nat) : Int) = (f : Int) + 1 := by unfold pg1; rw [if_pos he]; omega
          have e2 := pg2_even hfn he
          rw [← e2, e1] at st3
          rw [e1] at c2 f2
          have S3 := Lib.hid st3
          have hpar : (f : Int) % 2 = 0 := by omega
          clear st st2 st3 hu hv e1 e2 he
          go_wp2
          go_roundw
          case rel => exact ⟨f + 1, by omega, by go_num, S3.out⟩
          case measure => simp [intOf]; omega
        · have e1 : ((pg1 f : Nat) : Int) = (f : Int) - 1 := by unfold pg1; rw [if_neg he]; omega
          have e2 := pg2_odd hfn he
          rw [← e2, e1] at st3
          rw [e1] at c2 f2
          have S3 := Lib.hid st3
          have hpar : (f : Int) % 2 = 1 := by omega
          clear st st2 st3 hu hv e1 e2 he
          go_wp2
          go_roundw
          case rel => exact ⟨f + 1, by omega, by go_num, S3.out⟩
          case measure => simp [intOf]; omega
      · obtain rfl : f = n := by omega
        rw [flTo_all LN1.out, flTo_all LN2.out] at st
        have st2 := st.rowLit2 (i := 1) (j := 2) rfl rfl (by decide) LN1.out LN2.out 28
        have z0 := (st2.blk (i := 0) rfl).cell (i := 0) rfl
        have f0 := (st2.blk (i := 0) rfl).free 0
        have S3 := Lib.hid st2
        clear st st2
        go_wp2
        have st4 := S3.out.blkSet (i := 0) rfl 0 (.slice (some ⟨wr.heap.size, 0, none⟩) 2 2)
        have y0 := (st4.blk (i := 0) rfl).cell (i := 0) rfl
        refine bodyPost_ret (v := .agg #[.slice (some ⟨wr.heap.size, 0, none⟩) 2 2]) (by simp [results, Try.results87, go_sem, y0]) rfl ⟨_, 2, [.slice (some ⟨gF, 0, none⟩) f f, .slice (some ⟨gS, 0, none⟩) f f], rfl, ?_⟩
        exact st4.pick (fun i => i + 3) (fun i hi => by simp at hi ⊢; omega) (fun i hi => by match i, hi with | 0, _ => rfl) (fun i j _ _ h => by omega)
end Go.Proofs.Ytckmmgepoccopaa
