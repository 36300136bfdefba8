import Derived.Test.YtmgoaabeopnopaaL4
import Derived.Test.YtmgoaabeopnopaaTri
import Derived.Test.YtmgoaabeopnopaaL19
import Derived.Test.YtmgoaabeopnopaaRin
/- Orbits of systems of any number of permutations: the facts and walks of XOrb, XWkV and XWkZ again, without the limit of 16. -/
namespace Go.Proofs.Ytmgoaabeopnopaa
open Go.RowKit
/-- Lists of n numbers, each a permutation. -/
def okBig (n : Int) (xss : List (List Int)) : Bool := decide (0 ≤ n ∧ n ≤ 400 ∧ xss.length ≤ 1048576 ∧ ∀ xs ∈ xss, (xs.length : Int) = n ∧ okP xs = true)
namespace Big
theorem sys_parts {n : Int} {xss : List (List Int)} (h : okBig n xss = true) : 0 ≤ n ∧ n ≤ 400 ∧ xss.length ≤ 1048576 ∧ ∀ xs ∈ xss, (xs.length : Int) = n ∧ okP xs = true := of_decide_eq_true h

theorem sys_at {n : Int} {xss : List (List Int)} {g p : Nat} {xs : List Int} {y : Int} (h : okBig n xss = true) (hx : xss[g]? = some xs) (hy : xs[p]? = some y) : ∃ q : Nat, y = (q : Int) ∧ (q : Int) < n := by
  have h1 := (sys_parts h).2.2.2 xs (List.mem_of_getElem? hx)
  obtain ⟨q, hq, hlt⟩ := okP_at h1.2 rfl hy
  exact ⟨q, hq, by omega⟩
theorem sys_len {n : Int} {xss : List (List Int)} {g : Nat} {xs : List Int} (h : okBig n xss = true) (hx : xss[g]? = some xs) : (xs.length : Int) = n := ((sys_parts h).2.2.2 xs (List.mem_of_getElem? hx)).1

theorem sys_img {n : Nat} {xss : List (List Int)} {g : List Int} (h : okBig n xss = true) (hg : g ∈ xss) {x : Int} (h0 : 0 ≤ x) (h1 : x < (n : Int)) : 0 ≤ fz g x ∧ fz g x < (n : Int) := by
  have h2 := (sys_parts h).2.2.2 g hg
  exact fz_in (by omega) h2.2 h0 h1
/-- A point outside of a closed list is led outside. -/
theorem closed_out {n : Nat} {xss : List (List Int)} {g R : List Int} (hsys : okBig n xss = true) (hg : g ∈ xss) (hR : Passed n R) (hc : Closed xss R) {x : Int} (h0 : 0 ≤ x) (h1 : x < (n : Int)) (hx : ¬ x ∈ R) : ¬ fz g x ∈ R := by
  intro hy
  have hok := ((sys_parts hsys).2.2.2 g hg)
  have hl : g.length = n := by omega
  have hnd : (fz g x :: R.map (fz g)).Nodup ∨ ∃ z ∈ R, fz g z = fz g x := by
    by_cases h : fz g x ∈ R.map (fz g)
    · obtain ⟨z, hz, he⟩ := List.mem_map.1 h
      exact .inr ⟨z, hz, he⟩
    · refine .inl (List.nodup_cons.2 ⟨h, ?_⟩)
      refine List.pairwise_map.2 ?_
      refine List.Pairwise.imp_of_mem ?_ hR.2
      intro a b ha hb hab he
      exact hab (fz_inj hl hok.2 (hR.1 a ha).1 (hR.1 a ha).2 (hR.1 b hb).1 (hR.1 b hb).2 he)
  rcases hnd with h | ⟨z, hz, he⟩
  · have hs : (fz g x :: R.map (fz g)) ⊆ R := by
      intro y hy'
      rcases List.mem_cons.1 hy' with rfl | h2
      · exact hy
      · obtain ⟨z, hz, rfl⟩ := List.mem_map.1 h2
        exact hc g hg z hz
    have := List.Nodup.length_le_of_subset h hs
    simp at this
    omega
  · have := fz_inj hl hok.2 (hR.1 z hz).1 (hR.1 z hz).2 h0 h1 he
    exact hx (this ▸ hz)
/-- With a closed list R aside, the search goes as without it. -/
theorem bfsG_aside {n : Nat} {xss : List (List Int)} {R : List Int} (hsys : okBig n xss = true) (hR : Passed n R) (hc : Closed xss R) {x : Int} (h0 : 0 ≤ x) (h1 : x < (n : Int)) (hx : ¬ x ∈ R) :
    ∀ (gs : List (List Int)), (∀ g ∈ gs, g ∈ xss) → ∀ (O : List Int), Passed n (R ++ O) → bfsG R x gs O = bfsG [] x gs O ∧ Passed n (R ++ bfsG R x gs O) ∧ O ⊆ bfsG R x gs O ∧ ∀ g ∈ gs, fz g x ∈ bfsG R x gs O
  | [], _, O, hp => ⟨rfl, hp, fun a h => h, by simp⟩
  | g :: gs, hgs, O, hp => by
    have hg := hgs g (by simp)
    have hi := sys_img hsys hg h0 h1
    have ho := closed_out hsys hg hR hc h0 h1 hx
    have e : genStep R x O g = genStep [] x O g := by
      unfold genStep
      have : (g.getD x.toNat 0 ∈ R ++ O) ↔ (g.getD x.toNat 0 ∈ [] ++ O) := by
        rw [List.nil_append, List.mem_append]
        exact ⟨fun h => h.resolve_left ho, .inr⟩
      simp only [this]
    have hmem : fz g x ∈ genStep R x O g ∧ O ⊆ genStep R x O g ∧ Passed n (R ++ genStep R x O g) := by
      unfold genStep
      split
      · rename_i h
        exact ⟨(List.mem_append.1 h).resolve_left ho, fun a h => h, hp⟩
      · rename_i h
        exact ⟨by simp [fz], fun a h => List.mem_append.2 (.inl h), ps_push hp hi.1 hi.2 h⟩
    obtain ⟨a1, a2, a3, a4⟩ := bfsG_aside hsys hR hc h0 h1 hx gs (fun g' h => hgs g' (List.mem_cons.2 (.inr h))) (genStep R x O g) hmem.2.2
    have f1 : bfsG R x (g :: gs) O = bfsG R x gs (genStep R x O g) := rfl
    have f2 : bfsG [] x (g :: gs) O = bfsG [] x gs (genStep [] x O g) := rfl
    rw [f1, f2, ← e]
    refine ⟨a1, a2, fun a h => a3 (hmem.2.1 h), fun g' h => ?_⟩
    rcases List.mem_cons.1 h with rfl | h
    · exact a3 hmem.1
    · exact a4 g' h
theorem bfs_aside {n : Nat} {xss : List (List Int)} {R : List Int} (hsys : okBig n xss = true) (hR : Passed n R) (hc : Closed xss R) :
    ∀ (f : Nat) (O : List Int) (i : Nat), f = n - i → Passed n (R ++ O) → i ≤ O.length → (∀ k < i, ∀ z, O[k]? = some z → ∀ g ∈ xss, fz g z ∈ O) →
      bfs xss R f O i = bfs xss [] f O i ∧ Passed n (R ++ bfs xss R f O i) ∧ O <+: bfs xss R f O i ∧ Closed xss (bfs xss R f O i)
  | 0, O, i, hf, hp, hi, hcl => by
    refine ⟨rfl, hp, List.prefix_refl _, ?_⟩
    have hl := passed_len hp
    simp at hl
    intro g hg x hx
    have hx : x ∈ O := hx
    obtain ⟨k, hk, rfl⟩ := List.mem_iff_getElem.1 hx
    exact hcl k (by omega) _ (List.getElem?_eq_getElem hk) g hg
  | f + 1, O, i, hf, hp, hi, hcl => by
    cases hz : O[i]? with
    | none =>
      have e1 : bfs xss R (f + 1) O i = O := by rw [bfs, hz]
      have e2 : bfs xss [] (f + 1) O i = O := by rw [bfs, hz]
      rw [e1, e2]
      refine ⟨rfl, hp, List.prefix_refl _, ?_⟩
      have hl := List.getElem?_eq_none_iff.1 hz
      intro g hg x hx
      obtain ⟨k, hk, rfl⟩ := List.mem_iff_getElem.1 hx
      exact hcl k (by omega) _ (List.getElem?_eq_getElem hk) g hg
    | some x =>
      have e1 : bfs xss R (f + 1) O i = bfs xss R f (bfsG R x xss O) (i + 1) := by rw [bfs, hz]
      have e2 : bfs xss [] (f + 1) O i = bfs xss [] f (bfsG [] x xss O) (i + 1) := by rw [bfs, hz]
      have hxm : x ∈ O := List.mem_of_getElem? hz
      have hxr := hp.1 x (List.mem_append.2 (.inr hxm))
      have hxR : ¬ x ∈ R := fun h => (List.nodup_append.1 hp.2).2.2 x h x hxm rfl
      obtain ⟨a1, a2, a3, a4⟩ := bfsG_aside hsys hR hc hxr.1 hxr.2 hxR xss (fun g h => h) O hp
      have hpre := bfsG_pre R x xss O
      have hlt := (List.getElem?_eq_some_iff.1 hz).1
      have keep : ∀ k < O.length, (bfsG R x xss O)[k]? = O[k]? := fun k hk => by
        obtain ⟨t, ht⟩ := hpre
        rw [← ht, List.getElem?_append_left hk]
      obtain ⟨b1, b2, b3, b4⟩ := bfs_aside hsys hR hc f (bfsG R x xss O) (i + 1) (by omega) a2 (Nat.le_trans hlt hpre.length_le) (by
        intro k hk z hkz g hg
        rcases Nat.lt_succ_iff_lt_or_eq.1 hk with h | rfl
        · rw [keep k (by omega)] at hkz
          exact a3 (hcl k h z hkz g hg)
        · rw [keep k hlt, hz] at hkz
          injection hkz with hkz
          subst hkz
          exact a4 g hg)
      rw [e1, e2, ← a1]
      exact ⟨b1, b2, hpre.trans b3, b4⟩
/-- The orbit of a point outside of a closed list. -/
theorem orb_aside {n p : Nat} {xss : List (List Int)} {R : List Int} (hsys : okBig n xss = true) (hR : Passed n R) (hc : Closed xss R) (hp : p < n) (hn : ¬ (p : Int) ∈ R) :
    bfs xss R n [(p : Int)] 0 = orbL xss n p ∧ Passed n (R ++ orbL xss n p) ∧ (p : Int) ∈ orbL xss n p ∧ Closed xss (R ++ orbL xss n p) := by
  obtain ⟨a1, a2, a3, a4⟩ := bfs_aside hsys hR hc n [(p : Int)] 0 rfl (passed_snoc hR hp hn) (by simp) (fun k hk => absurd hk (by omega))
  rw [a1] at a2 a3 a4
  refine ⟨a1, a2, a3.subset (by simp), ?_⟩
  intro g hg x hx
  rcases List.mem_append.1 hx with h | h
  · exact List.mem_append.2 (.inl (hc g hg x h))
  · exact List.mem_append.2 (.inr (a4 g hg x h))
theorem orb_passed {n p : Nat} {xss : List (List Int)} (hsys : okBig n xss = true) (hp : p < n) : Passed n (orbL xss n p) := by
  simpa using (orb_aside hsys (passed_nil n) (closed_nil xss) hp (by simp)).2.1
theorem orbsTo_facts {n : Nat} {xss : List (List Int)} (hsys : okBig n xss = true) : ∀ k, k ≤ n → Passed n (orbsTo xss n k).flatten ∧ Closed xss (orbsTo xss n k).flatten ∧ (orbsTo xss n k).length ≤ k ∧ ∀ p : Nat, p < k → (p : Int) ∈ (orbsTo xss n k).flatten
  | 0, _ => ⟨by simpa [orbsTo] using passed_nil n, by simpa [orbsTo] using closed_nil xss, by simp [orbsTo], fun p h => absurd h (by omega)⟩
  | k + 1, hk => by
    obtain ⟨a1, a2, a3, a4⟩ := orbsTo_facts hsys k (by omega)
    unfold orbsTo
    split
    · rename_i h
      refine ⟨a1, a2, by omega, fun p hp => ?_⟩
      rcases Nat.lt_succ_iff_lt_or_eq.1 hp with h1 | rfl
      · exact a4 p h1
      · exact h
    · rename_i h
      obtain ⟨b1, b2, b3, b4⟩ := orb_aside hsys a1 a2 (show k < n by omega) h
      rw [List.flatten_append]
      simp only [List.flatten_cons, List.flatten_nil, List.append_nil]
      refine ⟨b2, b4, by simp; omega, fun p hp => List.mem_append.2 ?_⟩
      rcases Nat.lt_succ_iff_lt_or_eq.1 hp with h1 | rfl
      · exact .inl (a4 p h1)
      · exact .inr b3
theorem lab_all {D : List Int} {n : Nat} {xss : List (List Int)} (hsys : okBig n xss = true) (hD : D.length = n) (h : LabOk D (orbsTo xss n n)) : D = labL xss n := by
  apply List.ext_getElem?
  intro p
  by_cases hp : p < n
  · have hc := (orbsTo_facts hsys n (Nat.le_refl _)).2.2.2 p hp
    obtain ⟨o, ho, hpo⟩ := List.mem_flatten.1 hc
    have hlt : (orbsTo xss n n).findIdx (fun o => decide ((p : Int) ∈ o)) < (orbsTo xss n n).length := List.findIdx_lt_length_of_exists ⟨o, ho, by simpa using hpo⟩
    have hin : (p : Int) ∈ (orbsTo xss n n)[(orbsTo xss n n).findIdx (fun o => decide ((p : Int) ∈ o))] := by simpa using List.findIdx_getElem (w := hlt)
    rw [h _ _ (List.getElem?_eq_getElem hlt) p hin]
    simp [labL, hp]
  · rw [List.getElem?_eq_none (by omega), List.getElem?_eq_none (by rw [labL_length]; omega)]
section
variable {w0 w wr w4 : World} {g base M n m c c4 q i : Nat} {R O : List Int} {A A4 : Option Addr}
end
set_option maxHeartbeats 3200000 in
set_option maxRecDepth 8000 in
theorem sorb_any {A : Option Addr} {c N n p : Nat} {xss : List (List Int)} (w : World) (hx : xss.length = N) (ha : RdSS w A xss) (hN : N ≤ 1048576) (hsys : okBig n xss = true) (hp : p < n) :
    Calls Try.prog 143 #[.slice A N c, .int .i64 p] w (Ret1 w (orbL xss n p)) := by
  have HX := Lib.hid hx
  have HA := Lib.hid ha
  have HS := Lib.hid hsys
  have hn4 := (sys_parts hsys).2.1
  have TT := Lib.hid (show bfs xss [] (n - 0) [(p : Int)] 0 = orbL xss n p from rfl)
  clear hx ha hsys
  by_cases h0 : N = 0
  · subst h0
    have st0 := bst_start0 (w := w) (M := (p + 1)) (by omega) hp
    have hs1 : (w.alloc (Obj.cells #[.int .i64 p] 2)).heap.size = w.heap.size + 1 := by simp
    rw [set_alloc _ _ _ _ _ _ hs1.symm] at st0
    have ST := Lib.hid st0
    clear st0
    have hmk := run_make_row' (P := Try.prog) 150 4 (.bool false) 1 Try.underlying150 Try.infoB rfl .i64 .i64 (p + 1) (by omega) (by omega)
    rw [Int.natCast_add, Int.natCast_one] at hmk
    have hs0 := seen_start (w.alloc (.cells #[.int .i64 p] 2)) (p + 1) (by omega)
    rw [hs1] at hs0
    have hcs := own_cell hs0 (seenL_at (show p < (p + 1) by omega))
    rw [decide_eq_false (by simp)] at hcs
    have hfr := hs0.frozenAt p
    clear hs0
    go_enter Try.func143, Try.ntmps143
    go_wp2
    clear hmk hcs hfr
    go_loopw [5, 8] (fun v q wr => ∃ (i m c' : Nat) (A' : Option Addr) (O : List Int), q = .int .i64 i ∧ v = .slice A' m c' ∧ i ≤ m ∧ bfs xss [] (n - i) O i = orbL xss n p ∧ BSt w w wr (w.heap.size + 1) w.heap.size (p + 1) n [] O A' m c') (fun _ q _ => n - (intOf q).toNat)
    case atStart => exact ⟨0, 1, 1, _, [(p : Int)], rfl, rfl, by omega, TT.out, ST.out⟩
    case round =>
      obtain ⟨i, m, c', A', O, rfl, rfl, him, ht, st⟩ := hrel
      have hlen := st.len
      have S := Lib.hid st
      have HT := Lib.hid ht
      clear st ht
      by_cases hlt : i < m
      · obtain ⟨x, hxx⟩ : ∃ x, O[i]? = some x := ⟨_, List.getElem?_eq_getElem (by omega)⟩
        have HT2 := Lib.hid ((bfs_go (xss := xss) (R := []) (n := n) hxx (by omega)).symm.trans HT.out)
        have HXX := Lib.hid hxx
        clear hxx
        go_wp2
        go_loopw [5, 9] (fun v q wi => ∃ (j m c' : Nat) (A' : Option Addr) (O : List Int), q = .int .i64 j ∧ v = .slice A' m c' ∧ j ≤ 0 ∧ O[i]? = some x ∧ bfs xss [] (n - (i + 1)) (bfsG [] x (xss.drop j) O) (i + 1) = orbL xss n p ∧ BSt w w wi (w.heap.size + 1) w.heap.size (p + 1) n [] O A' m c') (fun _ q _ => 0 - (intOf q).toNat)
        case atStart => exact ⟨0, m, c', A', O, rfl, rfl, Nat.zero_le _, HXX.out, HT2.out, S.out⟩
        case round =>
          obtain ⟨j, m2, c2, A2, O2, rfl, rfl, hj, hxx2, ht2, st2⟩ := hrel
          have hlen2 := st2.len
          have hi2 := (List.getElem?_eq_some_iff.1 hxx2).1
          have S2 := Lib.hid st2
          have HT3 := Lib.hid ht2
          have HXX2 := Lib.hid hxx2
          clear st2 ht2 hxx2
          by_cases hjl : j < 0
          · exact absurd hjl (by omega)
          · have h := HT3.out
            rw [bfsG_end (by rw [HX.out]; omega)] at h
            have H5 := Lib.hid h
            clear h
            go_wp2
            go_roundw
            case rel => exact ⟨i + 1, m2, c2, A2, O2, by go_num, rfl, by omega, H5.out, S2.out⟩
            case measure => simp [intOf]; omega
      · have h := HT.out
        rw [bfs_done (by omega)] at h
        obtain rfl : O = orbL xss n p := h
        obtain rfl : (orbL xss n p).length = m := hlen.1
        go_wp2
        go_ret
        exact ⟨A', c', rfl, S.out.own, S.out.bel⟩
  · skip
    have st0 := bst_start0 (w := w) (M := (n + p + 1)) (by omega) hp
    have hs1 : (w.alloc (Obj.cells #[.int .i64 p] 2)).heap.size = w.heap.size + 1 := by simp
    rw [set_alloc _ _ _ _ _ _ hs1.symm] at st0
    have ST := Lib.hid st0
    clear st0
    have hmk := run_make_row' (P := Try.prog) 150 4 (.bool false) 1 Try.underlying150 Try.infoB rfl .i64 .i64 (n + p + 1) (by omega) (by omega)
    rw [Int.natCast_add, Int.natCast_add, Int.natCast_one] at hmk
    have hs0 := seen_start (w.alloc (.cells #[.int .i64 p] 2)) (n + p + 1) (by omega)
    rw [hs1] at hs0
    have hcs := own_cell hs0 (seenL_at (show p < (n + p + 1) by omega))
    rw [decide_eq_false (by simp)] at hcs
    have hfr := hs0.frozenAt p
    clear hs0
    obtain ⟨b0, o0, A0, c0, g0, rfl, hg0, hc0, hrd0, hms0⟩ := HA.out.row (k := 0) (by rw [HX.out]; omega)
    have hlg0 := sys_len HS.out hg0
    obtain ⟨l0, hl0⟩ : ∃ l, g0.length = l := ⟨_, rfl⟩
    rw [hl0] at hc0 hms0 hlg0
    obtain rfl : n = l0 := by omega
    clear hg0 hrd0 hl0 hlg0
    rw [Nat.add_zero] at hc0
    have hc0 := (((Below.refl w.heap.size w).alloc (Nat.le_refl _) (.cells #[.int .i64 p] 2)).cell (p := ⟨b0, o0, none⟩) (World.block_lt_of_cell? w _ hc0)).trans hc0
    go_enter Try.func143, Try.ntmps143
    go_wp2
    rw [decide_eq_true (show 0 < N by omega)]
    clear hmk hcs hfr
    go_loopw [5, 8] (fun v q wr => ∃ (i m c' : Nat) (A' : Option Addr) (O : List Int), q = .int .i64 i ∧ v = .slice A' m c' ∧ i ≤ m ∧ bfs xss [] (n - i) O i = orbL xss n p ∧ BSt w w wr (w.heap.size + 1) w.heap.size (n + p + 1) n [] O A' m c') (fun _ q _ => n - (intOf q).toNat)
    case atStart => exact ⟨0, 1, 1, _, [(p : Int)], rfl, rfl, by omega, TT.out, ST.out⟩
    case round =>
      obtain ⟨i, m, c', A', O, rfl, rfl, him, ht, st⟩ := hrel
      have hlen := st.len
      have S := Lib.hid st
      have HT := Lib.hid ht
      clear st ht
      by_cases hlt : i < m
      · obtain ⟨x, hxx⟩ : ∃ x, O[i]? = some x := ⟨_, List.getElem?_eq_getElem (by omega)⟩
        have HT2 := Lib.hid ((bfs_go (xss := xss) (R := []) (n := n) hxx (by omega)).symm.trans HT.out)
        have HXX := Lib.hid hxx
        clear hxx
        go_wp2
        go_loopw [5, 9] (fun v q wi => ∃ (j m c' : Nat) (A' : Option Addr) (O : List Int), q = .int .i64 j ∧ v = .slice A' m c' ∧ j ≤ N ∧ O[i]? = some x ∧ bfs xss [] (n - (i + 1)) (bfsG [] x (xss.drop j) O) (i + 1) = orbL xss n p ∧ BSt w w wi (w.heap.size + 1) w.heap.size (n + p + 1) n [] O A' m c') (fun _ q _ => N - (intOf q).toNat)
        case atStart => exact ⟨0, m, c', A', O, rfl, rfl, Nat.zero_le _, HXX.out, HT2.out, S.out⟩
        case round =>
          obtain ⟨j, m2, c2, A2, O2, rfl, rfl, hj, hxx2, ht2, st2⟩ := hrel
          have hlen2 := st2.len
          have hi2 := (List.getElem?_eq_some_iff.1 hxx2).1
          have S2 := Lib.hid st2
          have HT3 := Lib.hid ht2
          have HXX2 := Lib.hid hxx2
          clear st2 ht2 hxx2
          by_cases hjl : j < N
          · obtain ⟨b, o, A3, c3, gg, he, hg, hc, hrd, hms⟩ := (HA.out.keep S2.out.bel).row (k := j) (by rw [HX.out]; exact hjl)
            obtain ⟨rfl, rfl⟩ : b0 = b ∧ o0 = o := by simpa using he
            clear he
            have hlg := sys_len HS.out hg
            obtain ⟨l, hl⟩ : ∃ l, gg.length = l := ⟨_, rfl⟩
            rw [hl] at hc hms hlg
            have hxr := S2.out.ps.1 x (List.mem_append.2 (.inr (List.mem_of_getElem? HXX2.out)))
            obtain ⟨xp, rfl⟩ := Int.eq_ofNat_of_zero_le hxr.1
            obtain ⟨b3, o3, y, rfl, hgy, hcy⟩ := hrd.int (k := xp) (by rw [hl]; omega)
            obtain ⟨q, rfl, hq0⟩ := sys_at HS.out hg hgy
            obtain ⟨b4, o4, x4, rfl, hgx4, hcx4⟩ := (own_rd S2.out.own).int (k := i) hi2
            rw [HXX2.out] at hgx4
            injection hgx4 with hgx4
            subst hgx4
            have hqn : q < n := by omega
            go_wp2
            go_quiet (fail)
            have S3 := Lib.hid (S2.out.drew nq)
            have hcs := own_cell S3.out.seen (seenL_at (show q < (n + p + 1) by omega))
            have hfr := S3.out.seen.frozenAt q
            have HT4 := Lib.hid ((bfsG_go (xss := xss) (R := []) (O := O2) (x := (xp : Int)) (y := (q : Int)) hg (by simp [hgy])) ▸ HT3.out)
            clear hg hgy hrd
            by_cases hin : (q : Int) ∈ [] ++ O2
            · rw [decide_eq_true hin] at hcs
              have h := HT4.out
              rw [if_pos hin] at h
              have H5 := Lib.hid h
              clear h hin
              go_wp2
              go_roundw
              case rel => exact ⟨j + 1, m2, c2, _, O2, by go_num, rfl, by omega, HXX2.out, H5.out, S3.out⟩
              case measure => simp [intOf]; omega
            · rw [decide_eq_false hin] at hcs
              have h := HT4.out
              rw [if_neg hin] at h
              have H5 := Lib.hid h
              have NI := Lib.hid hin
              have hx6 := Lib.hid (show (O2 ++ [(q : Int)])[i]? = some (xp : Int) by rw [List.getElem?_append_left hi2]; exact HXX2.out)
              have OM := Lib.hid (S3.out.mark q)
              have hbc : w.heap.size ≤ ((wr.drewN nq).setCell ⟨(w.heap.size + 1), q, none⟩ (.bool true)).heap.size := by have := S3.out.tu.size; simpa using this
              clear h hin
              go_wp2_with (at_builtin; refine wpList_push2 _ rfl _ _ 36 2 rfl Try.underlying36 (.int .i64 0) 8 Try.info2 rfl w.heap.size _ _ _ rfl OM.out _ rfl ?hx (by omega) (by omega) hbc ?_)
              case hx => simp [Act.eval]
              intro A5 c5 w5 own5 gr5
              have S6 := Lib.hid (S3.out.push hqn NI.out own5 gr5)
              clear own5 gr5
              go_wp2
              go_roundw
              case rel => exact ⟨j + 1, m2 + 1, c5, A5, O2 ++ [(q : Int)], by go_num, rfl, by omega, hx6.out, H5.out, S6.out⟩
              case measure => simp [intOf]; omega
          · have h := HT3.out
            rw [bfsG_end (by rw [HX.out]; omega)] at h
            have H5 := Lib.hid h
            clear h
            go_wp2
            go_roundw
            case rel => exact ⟨i + 1, m2, c2, A2, O2, by go_num, rfl, by omega, H5.out, S2.out⟩
            case measure => simp [intOf]; omega
      · have h := HT.out
        rw [bfs_done (by omega)] at h
        obtain rfl : O = orbL xss n p := h
        obtain rfl : (orbL xss n p).length = m := hlen.1
        go_wp2
        go_ret
        exact ⟨A', c', rfl, S.out.own, S.out.bel⟩
theorem orb_at {xss : List (List Int)} {n k j : Nat} (hsys : okBig n xss = true) (hk : k < n) (hj : j < (orbL xss n k).length) : ∃ p : Nat, (orbL xss n k)[j]? = some (p : Int) ∧ p < n := by
  have h1 := List.getElem?_eq_getElem hj
  have h2 := (orb_passed hsys hk).1 _ (List.mem_of_getElem? h1)
  obtain ⟨p, hp⟩ := Int.eq_ofNat_of_zero_le h2.1
  exact ⟨p, by rw [h1, hp], by omega⟩
theorem orbs_cnt {xss : List (List Int)} {n k : Nat} (hsys : okBig n xss = true) (hk : k ≤ n) : (orbsTo xss n k).length ≤ n := Nat.le_trans (orbsTo_facts hsys k hk).2.2.1 hk

set_option maxHeartbeats 3200000 in
theorem sorbs_any {A : Option Addr} {c N n : Nat} {xss : List (List Int)} (w : World) (hx : xss.length = N) (ha : RdSS w A xss) (hN : N ≤ 1048576) (hsys : okBig n xss = true) :
    Calls Try.prog 86 #[.int .i64 n, .slice A N c] w (RetN w (labL xss n) n) := by
  have HX := Lib.hid hx
  have HA := Lib.hid ha
  have HS := Lib.hid hsys
  have hn4 := (sys_parts hsys).2.1
  clear hx ha hsys
  go_enter Try.func86, Try.ntmps86
  go_wp2
  go_loopw [5, 6] (fun v i wr => ∃ k : Nat, k ≤ n ∧ i = .int .i64 k ∧ ∃ A' c', v = .slice A' k c' ∧ wr.ownsRow w.heap.size 2 1 (.slice A' k c') k (ints (fillL k)) ∧ Below w.heap.size w wr) (fun _ i _ => n - (intOf i).toNat)
  case atStart => exact ⟨0, Nat.zero_le _, rfl, _, _, rfl, by simpa [fillL] using World.ownsRow_made (base := w.heap.size) (e := 2) (size := 1) w #[] 0 (Nat.le_refl _) (Nat.zero_le _) (by simp), (Below.refl _ _).alloc (Nat.le_refl _) _⟩
  case round =>
    obtain ⟨k, hk, rfl, A', c', rfl, own, bel⟩ := hrel
    have OWN := Lib.hid own
    have BEL := Lib.hid bel
    have hsz := bel.size
    clear own bel
    by_cases hlt : k < n
    · go_wp2_with (at_builtin; refine wpList_push _ rfl _ _ 36 2 rfl Try.underlying36 (.int .i64 0) 8 Try.info2 rfl w.heap.size _ _ _ rfl OWN.out _ rfl rfl (by omega) (by omega) (by omega) ?_)
      intro A3 c3 w3 own3 bel3 _
      have OWN3 := Lib.hid own3
      have BEL3 := Lib.hid bel3
      clear own3 bel3
      go_wp2
      go_roundw
      case rel => exact ⟨k + 1, by omega, by go_num, A3, c3, rfl, by unfold fillL; rw [List.replicate_succ']; simpa [fillL] using OWN3.out, BEL.out.trans BEL3.out⟩
      case measure => simp [intOf]; omega
    · obtain rfl : k = n := by omega
      have ST := Lib.hid (show LSt xss k 0 (fillL k) 0 from ⟨by simpa [orbsTo] using labOk_nil _, by simpa [orbsTo] using unlab_fill k, by simp [orbsTo], by simp [fillL]⟩)
      go_wp2
      clear hk hlt hsz
      obtain ⟨w2, rfl⟩ : ∃ w2 : World, w2 = wr := ⟨_, rfl⟩
      go_loopw [7, 8] (fun v q wr => ∃ (i cnt : Nat) (D : List Int), i ≤ k ∧ q = .int .i64 i ∧ v = .int .i64 cnt ∧ wr.ownsRow w.heap.size 2 1 (.slice A' k c') k (ints D) ∧ Below w.heap.size w wr ∧ LSt xss k i D cnt) (fun _ q _ => k - (intOf q).toNat)
      case atStart => exact ⟨0, 0, _, Nat.zero_le _, rfl, rfl, OWN.out, BEL.out, ST.out⟩
      case round =>
        obtain ⟨i, cnt, D, hi, rfl, rfl, own, bel, st⟩ := hrel
        have OWN2 := Lib.hid own
        have BEL2 := Lib.hid bel
        have S := Lib.hid st
        clear own bel st ST
        by_cases hlt : i < k
        · obtain ⟨v, hv, hvm⟩ := lst_at S.out hlt
          obtain ⟨g, rfl⟩ := own_shape OWN2.out (by omega)
          have hcell := own_cell OWN2.out (show (ints D)[i]? = some (.int .i64 v) by simp [hv])
          rcases hvm with ⟨hm, hv0⟩ | ⟨hm, hv0⟩
          · have S2 := Lib.hid (lst_skip S.out hm)
            clear hm hv
            go_wp2
            go_roundw
            case rel => exact ⟨i + 1, cnt, D, by omega, by go_num, rfl, OWN2.out, BEL2.out, S2.out⟩
            case measure => simp [intOf]; omega
          · have HM := Lib.hid hm
            have hps := (orb_aside HS.out (orbsTo_facts HS.out i (by omega)).1 (orbsTo_facts HS.out i (by omega)).2.1 hlt hm).2.1
            have HPS := Lib.hid hps
            have hol := passed_len (orb_passed HS.out hlt)
            obtain ⟨m, hml⟩ : ∃ m, (orbL xss k i).length = m := ⟨_, rfl⟩
            have HML := Lib.hid hml
            rw [hml] at hol
            have hcn := S.out.cn
            have hcb := orbs_cnt HS.out hi
            rw [← hcn] at hcb
            have HCN := Lib.hid hcn
            clear hm hv hps hml hcn
            go_wp2_with fail
            refine (sorb_any wr HX.out (HA.out.keep BEL2.out) hN HS.out hlt).mono ?_
            rintro e w3 ⟨A3, c3, rfl, own3, bel3⟩
            rw [HML.out] at own3 ⊢
            have OWN3 := Lib.hid own3
            have IN3 := Lib.hid (own_in own3)
            have OWNB := Lib.hid (own_below OWN2.out bel3 (Nat.le_refl _))
            have INB := Lib.hid (inB_wide (own_in OWN2.out) (Nat.le_refl _) (Nat.le_refl _))
            have BEL3 := Lib.hid (BEL2.out.trans (bel3.mono BEL2.out.size))
            have LI := Lib.hid (lin_start S.out)
            have hsz3 := bel3.size
            clear own3 bel3
            have hglo := (OWN2.out.lt g rfl).1
            obtain ⟨wo, rfl⟩ : ∃ wo : World, wo = wr := ⟨_, rfl⟩
            go_wp2
            go_loopw [10] (fun q wi => ∃ (j : Nat) (D : List Int), j ≤ m ∧ q = .int .i64 j ∧ wi.ownsRow w.heap.size 2 1 (.slice (some ⟨g, 0, none⟩) k c') k (ints D) ∧ wi.ownsRow wo.heap.size 2 1 (.slice A3 m c3) m (ints (orbL xss k i)) ∧ Below w.heap.size w wi ∧ LIn xss k i j D) (fun q _ => m - (intOf q).toNat)
            case atStart => exact ⟨0, D, Nat.zero_le _, rfl, OWNB.out, OWN3.out, BEL3.out, LI.out⟩
            case round =>
              obtain ⟨j, D2, hj, rfl, own4, own5, bel4, li⟩ := hrel
              have OWN4 := Lib.hid own4
              have OWN5 := Lib.hid own5
              have BEL4 := Lib.hid bel4
              have LIJ := Lib.hid li
              clear own4 own5 bel4 li LI BEL3 OWN3 OWNB
              by_cases hjm : j < m
              · obtain ⟨p, hp, hpk⟩ := orb_at HS.out hlt (show j < (orbL xss k i).length by rw [HML.out]; exact hjm)
                obtain ⟨b, o, x, rfl, hgx, hcx⟩ := (own_rd OWN5.out).int (k := j) (by rw [HML.out]; exact hjm)
                rw [hp] at hgx
                injection hgx with hgx
                subst hgx
                obtain ⟨u, hu⟩ := ints_at LIJ.out.len hpk
                have hcl := own_cell OWN4.out hu
                have hfz := OWN4.out.frozenAt p
                have hst := OWN4.out.stored p (.int .i64 cnt)
                have O6 := Lib.hid hst.1
                have O7 := Lib.hid (own_apart (v := .slice (some ⟨g, 0, none⟩) k c') OWN5.out hst.2 IN3.out INB.out (.inr (Nat.le_refl _)))
                have B6 := Lib.hid (BEL4.out.setCell (p := ⟨g, p, none⟩) hglo (.int .i64 cnt))
                have L6 := Lib.hid (show LIn xss k i (j + 1) (D2.set p (cnt : Int)) by rw [HCN.out]; exact lin_step LIJ.out HPS.out hp hpk)
                clear hst hp hu
                go_wp2
                go_roundw
                case rel => exact ⟨j + 1, D2.set p (cnt : Int), by omega, by go_num, by have h := O6.out; rwa [ints_set] at h, O7.out, B6.out, L6.out⟩
                case measure => simp [intOf]; omega
              · have LE := Lib.hid (lin_end LIJ.out (by rw [HML.out]; omega) HM.out)
                go_wp2
                go_roundw
                case rel => exact ⟨i + 1, cnt + 1, D2, by omega, by go_num, by go_num, OWN4.out, BEL4.out, by rw [HCN.out]; exact LE.out⟩
                case measure => simp [intOf]; omega
        · obtain rfl : i = k := by omega
          have HE := Lib.hid (lab_all HS.out S.out.len S.out.lab)
          have h := OWN2.out
          rw [HE.out] at h
          have HO := Lib.hid h
          clear h
          go_wp2
          go_ret
          exact ⟨A', c', rfl, HO.out, BEL2.out⟩
end Big
end Go.Proofs.Ytmgoaabeopnopaa
/- The automorphisms of a maniplex are a group of permutations; two flags lie in one orbit exactly if the forms from them are equal. Plain facts. -/
namespace Go.Proofs.Ytmgoaabeopnopaa
open Go.RowKit

section
variable {xss yss : List (List Int)} {n : Nat}
/-- Such a list meets each flag: where it starts, all flags are reached. -/
theorem hom_onto {L : List Int} (hs : okSys n xss = true) (hs' : okSys n yss = true) (hl : xss.length = yss.length) (hn : 0 < n) (hall : ∀ q : Nat, q < n → (orbL yss n q).length = n) (h : Hom n xss yss L) {y : Nat} (hy : y < n) : ∃ x : Nat, x < n ∧ fz L x = (y : Int) := by
  have h0 := h.im 0 hn
  obtain ⟨q, hq⟩ := Int.eq_ofNat_of_zero_le h0.1
  have hcl : Closed yss ((List.range n).map fun k : Nat => fz L k) := by
    intro g' hg' z hz
    obtain ⟨k, hk, rfl⟩ := List.mem_map.1 hz
    have hk : k < n := by simpa using hk
    obtain ⟨i, hi, hgi⟩ := List.mem_iff_getElem.1 hg'
    have hix : i < xss.length := by omega
    have h1 := h.mv i xss[i] g' (List.getElem?_eq_getElem hix) (by rw [List.getElem?_eq_getElem hi, hgi]) k hk
    have h2 := sys_img hs (List.getElem_mem hix) (x := (k : Int)) (by omega) (by omega)
    obtain ⟨m, hm⟩ := Int.eq_ofNat_of_zero_le h2.1
    rw [← h1, hm]
    exact List.mem_map.2 ⟨m, by simp; omega, rfl⟩
  have hqn : q < n := by omega
  have hsub := orb_sub (n := n) (q := q) hcl (List.mem_map.2 ⟨0, by simpa using hn, hq⟩) (y : Int) (mem_all (hall q hqn) (orb_passed hs' hqn) hy)
  obtain ⟨x, hx, he⟩ := List.mem_map.1 hsub
  exact ⟨x, by simpa using hx, he⟩
theorem hom_inj {L : List Int} (hs : okSys n xss = true) (hs' : okSys n yss = true) (hl : xss.length = yss.length) (hn : 0 < n) (hall : ∀ q : Nat, q < n → (orbL yss n q).length = n) (h : Hom n xss yss L) {j k : Nat} (hj : j < n) (hk : k < n) (he : fz L j = fz L k) : j = k := by
  have hex : ∀ y, ∃ x, y < n → x < n ∧ fz L x = (y : Int) := fun y => by
    by_cases hy : y < n
    · obtain ⟨x, h1, h2⟩ := hom_onto hs hs' hl hn hall h hy
      exact ⟨x, fun _ => ⟨h1, h2⟩⟩
    · exact ⟨0, fun h => absurd h hy⟩
  obtain ⟨ψ, hψ⟩ : ∃ ψ : Nat → Nat, ∀ y, y < n → ψ y < n ∧ fz L (ψ y) = (y : Int) := ⟨fun y => (hex y).choose, fun y => (hex y).choose_spec⟩
  have key : ∀ x, x < n → ∃ y, y < n ∧ ψ y = x := fun x hx => inj_onto (fun y hy => (hψ y hy).1) (fun a b ha hb he => by
    have h1 := (hψ a ha).2
    have h2 := (hψ b hb).2
    rw [he, h2] at h1
    omega) hx
  obtain ⟨a, ha, rfl⟩ := key j hj
  obtain ⟨b, hb, rfl⟩ := key k hk
  have h1 := (hψ a ha).2
  have h2 := (hψ b hb).2
  rw [he, h2] at h1
  have : b = a := by omega
  rw [this]
theorem hom_iso {L : List Int} (hs : okSys n xss = true) (hs' : okSys n yss = true) (hl : xss.length = yss.length) (hn : 0 < n) (hall : ∀ q : Nat, q < n → (orbL yss n q).length = n) (h : Hom n xss yss L) : IsoS n xss yss (fun k => (fz L k).toNat) := by
  refine ⟨hl, fun k hk => ?_, fun j k hj hk he => ?_, fun i g g' hg hg' k hk => ?_⟩
  · have := h.im k hk; omega
  · have h1 := h.im j hj
    have h2 := h.im k hk
    exact hom_inj hs hs' hl hn hall h hj hk (by have he : (fz L j).toNat = (fz L k).toNat := he; omega)
  · have h1 := h.im k hk
    have h2 := sys_img hs (List.mem_of_getElem? hg) (x := (k : Int)) (by omega) (by omega)
    have h3 := h.mv i g g' hg hg' k hk
    have h4 := h.im (fz g k).toNat (by omega)
    change (((fz L (((fz g k).toNat : Nat) : Int)).toNat : Nat) : Int) = fz g' (((fz L k).toNat : Nat) : Int)
    rw [show (((fz g k).toNat : Nat) : Int) = fz g k by omega] at h4 ⊢
    rw [show (((fz L k).toNat : Nat) : Int) = fz L k by omega, ← h3]
    omega
theorem hom_ok {L : List Int} (hs : okSys n xss = true) (hs' : okSys n yss = true) (hl : xss.length = yss.length) (hn : 0 < n) (hall : ∀ q : Nat, q < n → (orbL yss n q).length = n) (h : Hom n xss yss L) : okP L = true := by
  have h4 := (sys_parts hs).2.1
  refine okP_of h.len (by omega) (fun x h0 h1 => ?_) fun x y hx0 hx1 hy0 hy1 he => ?_
  · obtain ⟨k, rfl⟩ := Int.eq_ofNat_of_zero_le h0
    exact h.im k (by omega)
  · obtain ⟨j, rfl⟩ := Int.eq_ofNat_of_zero_le hx0
    obtain ⟨k, rfl⟩ := Int.eq_ofNat_of_zero_le hy0
    have := hom_inj hs hs' hl hn hall h (j := j) (k := k) (by omega) (by omega) he
    omega
theorem hom_unit (hs : okSys n xss = true) : Hom n xss xss (unitL n) := by
  refine ⟨by simp [unitL], fun k hk => by rw [fz_unit hk]; omega, fun i g h hg hh k hk => ?_⟩
  rw [hg] at hh
  injection hh with hh
  subst hh
  have h2 := sys_img hs (List.mem_of_getElem? hg) (x := (k : Int)) (by omega) (by omega)
  obtain ⟨m, hm⟩ := Int.eq_ofNat_of_zero_le h2.1
  rw [fz_unit hk, hm, fz_unit (by omega)]
theorem hom_then {zss : List (List Int)} {L M : List Int} (hs : okSys n xss = true) (hl : xss.length = yss.length) (h : Hom n xss yss L) (h' : Hom n yss zss M) : Hom n xss zss ((List.range n).map fun k : Nat => fz M (fz L k)) := by
  have hat : ∀ k : Nat, k < n → fz ((List.range n).map fun k : Nat => fz M (fz L k)) (k : Int) = fz M (fz L k) := fun k hk => fz_at (by simp [hk])
  refine ⟨by simp, fun k hk => ?_, fun i g g' hg hg' k hk => ?_⟩
  · rw [hat k hk]
    have h1 := h.im k hk
    obtain ⟨m, hm⟩ := Int.eq_ofNat_of_zero_le h1.1
    rw [hm]
    exact h'.im m (by omega)
  · have hi := (List.getElem?_eq_some_iff.1 hg).1
    have hgy : yss[i]? = some yss[i] := List.getElem?_eq_getElem (by omega)
    have h2 := sys_img hs (List.mem_of_getElem? hg) (x := (k : Int)) (by omega) (by omega)
    obtain ⟨m, hm⟩ := Int.eq_ofNat_of_zero_le h2.1
    have h1 := h.im k hk
    obtain ⟨u, hu⟩ := Int.eq_ofNat_of_zero_le h1.1
    rw [hat k hk, hm, hat m (by omega), ← hm, h.mv i g _ hg hgy k hk, hu]
    exact h'.mv i _ g' hgy hg' u (by omega)
/-- Two flags from which the forms are equal are led to each other. -/
theorem frm_hom {p q : Nat} (hs : okSys n xss = true) (hs' : okSys n yss = true) (hall : ∀ q : Nat, q < n → (orbL xss n q).length = n) (hall' : ∀ q : Nat, q < n → (orbL yss n q).length = n) (hp : p < n) (hq : q < n) (he : frmL xss n p = frmL yss n q) : ∃ L, Hom n xss yss L ∧ fz L p = (q : Int) := by
  rw [frm_eq_sec hs hp (hall p hp), frm_eq_sec hs' hq (hall' q hq)] at he
  obtain ⟨ppa, pm, pcl⟩ := orb_facts hs hp
  obtain ⟨qpa, qm, qcl⟩ := orb_facts hs' hq
  have hpl := hall p hp
  have hql := hall' q hq
  obtain ⟨_, _, ho⟩ := oinv_orb hs hp
  obtain ⟨_, _, ho'⟩ := oinv_orb hs' hq
  have hp0 := ho.hd
  have hq0 := ho'.hd
  obtain ⟨O, hO⟩ : ∃ O, orbL xss n p = O := ⟨_, rfl⟩
  obtain ⟨O', hO'⟩ : ∃ O, orbL yss n q = O := ⟨_, rfl⟩
  have e1 : secL xss n p = xss.map (secRow O) := by unfold secL; rw [hO]
  have e2 : secL yss n q = yss.map (secRow O') := by unfold secL; rw [hO']
  rw [e1, e2] at he
  rw [hO] at ppa pm pcl hpl hp0
  rw [hO'] at qpa qm qcl hql hq0
  have hin : ∀ k : Nat, k < n → (k : Int) ∈ O := fun k hk => mem_all hpl ppa hk
  have hat : ∀ k : Nat, k < n → fz ((List.range n).map fun k : Nat => fz O' (idxL O k)) (k : Int) = fz O' (idxL O k) := fun k hk => fz_at (by simp [hk])
  refine ⟨(List.range n).map fun k : Nat => fz O' (idxL O k), ⟨by simp, fun k hk => ?_, fun i g g' hg hg' k hk => ?_⟩, ?_⟩
  · rw [hat k hk]
    have h1 := fz_idx (hin k hk)
    exact qpa.1 _ (fz_mem h1.1 (by omega))
  · have h2 := sys_img hs (List.mem_of_getElem? hg) (x := (k : Int)) (by omega) (by omega)
    obtain ⟨m, hm⟩ := Int.eq_ofNat_of_zero_le h2.1
    have h1 := fz_idx (hin k hk)
    obtain ⟨a, ha⟩ := Int.eq_ofNat_of_zero_le h1.1
    have hr : secRow O g = secRow O' g' := by
      have h3 := congrArg (fun z => z[i]?) he
      simp only [List.getElem?_map, hg, hg', Option.map_some] at h3
      injection h3
    have h4 := congrArg (fun z => fz z (a : Int)) hr
    have h5 : fz (secRow O g) (a : Int) = idxL O (fz g (fz O a)) := fz_row (by omega) (by omega)
    have h6 : fz (secRow O' g') (a : Int) = idxL O' (fz g' (fz O' a)) := fz_row (by omega) (by omega)
    rw [hat k hk, hm, hat m (by omega), ← hm, ha]
    have h7 : fz O (a : Int) = (k : Int) := by rw [← ha]; exact h1.2.2
    rw [h7] at h5
    have h8 : idxL O (fz g k) = idxL O' (fz g' (fz O' a)) := by rw [← h5, ← h6]; exact h4
    rw [h8]
    have hz := fz_mem (ord := O') (k := (a : Int)) (by omega) (by omega)
    exact (fz_idx (qcl g' (List.mem_of_getElem? hg') _ hz)).2.2
  · rw [hat p hp, idx_nodup ppa.2 hp0]
    exact fz_at hq0
end
end Go.Proofs.Ytmgoaabeopnopaa
/- The orbits of flags under the automorphisms, and their numbers. Plain facts. -/
namespace Go.Proofs.Ytmgoaabeopnopaa
open Go.RowKit

theorem get_snoc' {α : Type} {l : List α} {v u : α} {i : Nat} (h : (l ++ [v])[i]? = some u) : l[i]? = some u ∨ u = v := by
  rcases Nat.lt_or_ge i l.length with h1 | h1
  · rw [List.getElem?_append_left h1] at h; exact .inl h
  · rw [List.getElem?_append_right h1] at h
    have h2 := (List.getElem?_eq_some_iff.1 h).1
    simp at h2
    rw [show i - l.length = 0 by omega] at h
    simp at h
    exact .inr h.symm
section
variable {xss : List (List Int)}
theorem aut_iff (hm : IsMan xss) {L : List Int} : L ∈ autL xss ↔ Hom (flN xss) xss xss L := by
  have hn : 0 < flN xss := by have := hm.f2; omega
  constructor
  · intro h
    obtain ⟨q, _, h1⟩ := autTo_mem h
    exact (isoL_hom h1).1
  · intro h
    have h0 := h.im 0 hn
    obtain ⟨q, hq⟩ := Int.eq_ofNat_of_zero_le h0.1
    exact autTo_in (q := q) (by omega) (isoL_some hm.sys rfl hn (hm.all hn) h hq)
theorem aut_ok (hm : IsMan xss) {L : List Int} (h : L ∈ autL xss) : okP L = true :=
  hom_ok hm.sys hm.sys rfl (by have := hm.f2; omega) (fun _ hq => hm.all hq) ((aut_iff hm).1 h)
theorem aut_big (hm : IsMan xss) : okBig (flN xss) (autL xss) = true :=
  decide_eq_true ⟨by omega, by have := hm.f4; omega, by have := autL_len xss; have := hm.f4; omega, fun xs hx => ⟨by rw [autL_rows xs hx], aut_ok hm hx⟩⟩
/-- Flags that an automorphism leads to each other. -/
def SameF (xss : List (List Int)) (p q : Nat) : Prop := ∃ L ∈ autL xss, fz L p = (q : Int)
theorem sameF_frm (hm : IsMan xss) {p q : Nat} (hp : p < flN xss) (hq : q < flN xss) : SameF xss p q ↔ frmL xss (flN xss) p = frmL xss (flN xss) q := by
  have hn : 0 < flN xss := by have := hm.f2; omega
  constructor
  · rintro ⟨L, h, he⟩
    have h1 := hom_iso hm.sys hm.sys rfl hn (fun _ hq => hm.all hq) ((aut_iff hm).1 h)
    have h2 := iso_frm h1 hm.sys hm.sys (fun _ hq => hm.all hq) hp
    rw [he] at h2
    simpa using h2
  · intro h
    obtain ⟨L, h1, h2⟩ := frm_hom hm.sys hm.sys (fun _ hq => hm.all hq) (fun _ hq => hm.all hq) hp hq h
    exact ⟨L, (aut_iff hm).2 h1, h2⟩
theorem sameF_refl (hm : IsMan xss) {p : Nat} (hp : p < flN xss) : SameF xss p p := (sameF_frm hm hp hp).2 rfl
theorem sameF_symm (hm : IsMan xss) {p q : Nat} (hp : p < flN xss) (hq : q < flN xss) (h : SameF xss p q) : SameF xss q p := (sameF_frm hm hq hp).2 ((sameF_frm hm hp hq).1 h).symm
theorem sameF_trans (hm : IsMan xss) {p q r : Nat} (hp : p < flN xss) (hq : q < flN xss) (hr : r < flN xss) (h : SameF xss p q) (h' : SameF xss q r) : SameF xss p r := (sameF_frm hm hp hr).2 (((sameF_frm hm hp hq).1 h).trans ((sameF_frm hm hq hr).1 h'))
/-- The orbit of a flag under the automorphisms. -/
theorem aorb_mem (hm : IsMan xss) {p q : Nat} (hp : p < flN xss) : (q : Int) ∈ orbL (autL xss) (flN xss) p ↔ SameF xss p q := by
  have hn : 0 < flN xss := by have := hm.f2; omega
  have hb := aut_big hm
  obtain ⟨_, o1, o2, o3⟩ := Big.orb_aside hb (passed_nil (flN xss)) (closed_nil (autL xss)) hp (by simp)
  simp only [List.nil_append] at o1 o3
  constructor
  · intro h
    have hcl : Closed (autL xss) ((autL xss).map fun L => fz L p) := by
      intro g hg x hx
      obtain ⟨L, hL, rfl⟩ := List.mem_map.1 hx
      have h1 := hom_then hm.sys rfl ((aut_iff hm).1 hL) ((aut_iff hm).1 hg)
      refine List.mem_map.2 ⟨_, (aut_iff hm).2 h1, ?_⟩
      exact fz_at (by simp [hp])
    have hu := (aut_iff hm).2 (hom_unit hm.sys)
    have h2 := orb_sub (n := flN xss) (q := p) hcl (List.mem_map.2 ⟨_, hu, fz_unit hp⟩) _ h
    obtain ⟨L, hL, he⟩ := List.mem_map.1 h2
    exact ⟨L, hL, he⟩
  · rintro ⟨L, hL, he⟩
    rw [← he]
    exact o3 L hL _ o2
theorem aorbs_mem (hm : IsMan xss) {q : Nat} (hq : q < flN xss) : ∀ k, k ≤ flN xss → ((q : Int) ∈ (orbsTo (autL xss) (flN xss) k).flatten ↔ ∃ p, p < k ∧ SameF xss p q)
  | 0, _ => by simp [orbsTo]
  | k + 1, hk => by
    have ih := aorbs_mem hm hq k (by omega)
    by_cases h : (k : Int) ∈ (orbsTo (autL xss) (flN xss) k).flatten
    · rw [orbsTo_in h, ih]
      constructor
      · rintro ⟨p, hp, hs⟩; exact ⟨p, by omega, hs⟩
      · rintro ⟨p, hp, hs⟩
        rcases Nat.lt_succ_iff_lt_or_eq.1 hp with h1 | rfl
        · exact ⟨p, h1, hs⟩
        · obtain ⟨p', hp', hs'⟩ := (aorbs_mem hm (show p < flN xss by omega) p (by omega)).1 h
          exact ⟨p', hp', sameF_trans hm (by omega) (by omega) hq hs' hs⟩
    · rw [orbsTo_out h, List.flatten_append]
      simp only [List.flatten_cons, List.flatten_nil, List.append_nil, List.mem_append]
      rw [ih, aorb_mem hm (by omega)]
      constructor
      · rintro (⟨p, hp, hs⟩ | hs)
        · exact ⟨p, by omega, hs⟩
        · exact ⟨k, by omega, hs⟩
      · rintro ⟨p, hp, hs⟩
        rcases Nat.lt_succ_iff_lt_or_eq.1 hp with h1 | rfl
        · exact .inl ⟨p, h1, hs⟩
        · exact .inr hs
/-- The numbers of the orbits of the flags below k, in a list that holds those of the first ones. -/
structure LabA (xss : List (List Int)) (f : Nat) (D : List Int) : Prop where
  len : D.length = flN xss
  lab : ∀ p : Nat, p < f → ∀ (i : Nat) (o : List Int), (orbsTo (autL xss) (flN xss) f)[i]? = some o → (p : Int) ∈ o → D[p]? = some (i : Int)
theorem labA_start {D : List Int} (h : D.length = flN xss) : LabA xss 0 D := ⟨h, fun p hp => by omega⟩
theorem labA_done (hm : IsMan xss) {D : List Int} (h : LabA xss (flN xss) D) : D = labL (autL xss) (flN xss) := by
  refine Big.lab_all (aut_big hm) h.len fun i o ho p hp => ?_
  have hpa := (Big.orbsTo_facts (aut_big hm) (flN xss) (Nat.le_refl _)).1
  have := hpa.1 _ (List.mem_flatten.2 ⟨o, List.mem_of_getElem? ho, hp⟩)
  exact h.lab p (by omega) i o ho hp
/-- Each flag below k has a number. -/
theorem labA_has (hm : IsMan xss) {f p : Nat} (hf : f ≤ flN xss) (hp : p < f) : ∃ (i : Nat) (o : List Int), (orbsTo (autL xss) (flN xss) f)[i]? = some o ∧ (p : Int) ∈ o := by
  obtain ⟨o, ho, hpo⟩ := List.mem_flatten.1 ((Big.orbsTo_facts (aut_big hm) f hf).2.2.2 p hp)
  obtain ⟨i, hi, he⟩ := List.mem_iff_getElem.1 ho
  exact ⟨i, o, by rw [List.getElem?_eq_getElem hi, he], hpo⟩
/-- Flags that are led to each other have one number, and others have different ones. -/
theorem orb_idx (hm : IsMan xss) {f p q i : Nat} {o : List Int} (hf : f ≤ flN xss) (hp : p < flN xss) (hq : q < flN xss) (ho : (orbsTo (autL xss) (flN xss) f)[i]? = some o) (hpo : (p : Int) ∈ o) : (q : Int) ∈ o ↔ SameF xss p q := by
  have hall : ∀ k, k ≤ flN xss → ∀ (i : Nat) (o : List Int), (orbsTo (autL xss) (flN xss) k)[i]? = some o → ∃ r, r < k ∧ o = orbL (autL xss) (flN xss) r := by
    intro k
    induction k with
    | zero => intro _ i o h; simp [orbsTo] at h
    | succ k ih =>
      intro hk i o h
      by_cases hin : (k : Int) ∈ (orbsTo (autL xss) (flN xss) k).flatten
      · rw [orbsTo_in hin] at h
        obtain ⟨r, hr, he⟩ := ih (by omega) i o h
        exact ⟨r, by omega, he⟩
      · rw [orbsTo_out hin] at h
        rcases get_snoc' h with h1 | h1
        · obtain ⟨r, hr, he⟩ := ih (by omega) i o h1
          exact ⟨r, by omega, he⟩
        · exact ⟨k, by omega, h1⟩
  obtain ⟨r, hr, rfl⟩ := hall f hf i o ho
  have h1 := (aorb_mem hm (show r < flN xss by omega)).1 hpo
  rw [aorb_mem hm (by omega)]
  constructor
  · intro h2; exact sameF_trans hm hp (by omega) hq (sameF_symm hm (by omega) hp h1) h2
  · intro h2; exact sameF_trans hm (by omega) hp hq h1 h2
end
end Go.Proofs.Ytmgoaabeopnopaa
