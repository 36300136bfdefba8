import Derived.Test.YtmgoaabeopnopaaL13
import Derived.Test.YtmgoaabeopnopaaL12
import Derived.Deep.AppendLies
import Derived.Deep.RegionLaw
import Derived.Deep.DeepMust
import Derived.Test.YtmgoaabeopnopaaL7
import Derived.Test.YtmgoaabeopnopaaL8
import Derived.Deep.RegionHeld3
import Derived.Test.YtmgoaabeopnopaaL14
import Derived.Test.YtmgoaabeopnopaaL16
import Derived.Laws.Bits64
/- impl.Maniplex.section. -/
namespace Go.Proofs.Ytmgoaabeopnopaa
open Go.RowKit

/-- The rows of L as far as r of them are whole; the row r holds x. -/
def rwTo (L : List (List Int)) (q r : Nat) (x : List Int) : List (List Int) := (List.range q).map fun j => if j < r then L.getD j [] else if j = r then x else []
section
variable {L : List (List Int)} {q r : Nat} {x y : List Int}
theorem rwTo_len : (rwTo L q r x).length = q := by simp [rwTo]
theorem rwTo_zero : rwTo L q 0 [] = List.replicate q [] := by
  apply List.ext_getElem?
  intro j
  by_cases hj : j < q
  · simp [rwTo, hj]
  · simp [rwTo, hj]
theorem rwTo_at (hr : r < q) : (rwTo L q r x)[r]? = some x := by simp [rwTo, hr]
theorem rwTo_set (hr : r < q) : (rwTo L q r x).set r y = rwTo L q r y := by
  apply List.ext_getElem?
  intro j
  by_cases hj : r = j
  · subst hj
    rw [List.getElem?_set_self (by rw [rwTo_len]; exact hr), rwTo_at hr]
  · rw [List.getElem?_set_ne hj]
    by_cases hq : j < q
    · simp [rwTo, hq, Ne.symm hj]
    · simp [rwTo, hq]
theorem rwTo_next (hx : L[r]? = some x) : rwTo L q r x = rwTo L q (r + 1) [] := by
  unfold rwTo
  refine List.map_congr_left fun j hj => ?_
  by_cases h1 : j < r
  · rw [if_pos h1, if_pos (by omega)]
  · by_cases h2 : j = r
    · subst h2
      rw [if_neg h1, if_pos rfl, if_pos (by omega), List.getD, hx]
      rfl
    · rw [if_neg h1, if_neg h2, if_neg (by omega)]
      split <;> rfl
theorem rwTo_all (hl : L.length = q) : rwTo L q q x = L := by
  apply List.ext_getElem?
  intro j
  by_cases hj : j < q
  · have hjl : j < L.length := by omega
    simp [rwTo, hj, List.getD, hjl]
  · rw [List.getElem?_eq_none (by rw [rwTo_len]; omega), List.getElem?_eq_none (by omega)]
end

abbrev isePs (H gN gR : Nat) (m : Value) (l c2 n q : Nat) (A2 : Option Addr) (ord nums : List Int) (vals : List Value) (L : List (List Int)) : List Pc :=
  [.blk H #[m] 27, .blk (H + 1) #[.slice none 0 0] 27, .own 2 A2 l c2 (ints ord), .own 2 (some ⟨gN, 0, none⟩) n n (ints nums), .rows 2 36 (some ⟨gR, 0, none⟩) q q vals L]

end Go.Proofs.Ytmgoaabeopnopaa
/- impl.SectionAt, FacetAt, VertexFigureAt. -/
namespace Go.Proofs.Ytmgoaabeopnopaa
open Go.RowKit

theorem rank_bel {A : Option Addr} {c N : Nat} (w : World) :
    Calls Try.prog 138 #[.agg #[.slice A N c]] w fun e w' => e = .returned (.int .i64 N) ∧ Below w.heap.size w w' :=
  (rank_any w).mono fun _ _ ⟨he, hb⟩ => ⟨he, hb ▸ below1 _ _⟩

end Go.Proofs.Ytmgoaabeopnopaa
/- impl.SmallestPolygons. -/
namespace Go.Proofs.Ytmgoaabeopnopaa
open Go.RowKit

/-- A list of numbers as far as k of them are written. -/
def flTo (L : List Int) (M k : Nat) : List Int := (List.range M).map fun j => if j < k then L.getD j 0 else 0
section
variable {L : List Int} {M k : Nat} {x : Int}
theorem flTo_len : (flTo L M k).length = M := by simp [flTo]
theorem flTo_zero : flTo L M 0 = List.replicate M 0 := by
  apply List.ext_getElem?
  intro j
  by_cases hj : j < M
  · simp [flTo, hj]
  · simp [flTo, hj]
theorem flTo_step (hk : k < M) (hx : L[k]? = some x) : (flTo L M k).set k x = flTo L M (k + 1) := by
  apply List.ext_getElem?
  intro j
  by_cases hj : k = j
  · subst hj
    rw [List.getElem?_set_self (by rw [flTo_len]; exact hk)]
    simp [flTo, hk, List.getD, hx]
  · rw [List.getElem?_set_ne hj]
    by_cases hq : j < M
    · have : j < k + 1 ↔ j < k := by omega
      simp [flTo, hq, this]
    · simp [flTo, hq]
theorem flTo_all (hl : L.length = M) : flTo L M M = L := by
  apply List.ext_getElem?
  intro j
  by_cases hj : j < M
  · have hjl : j < L.length := by omega
    simp [flTo, hj, List.getD, hjl]
  · rw [List.getElem?_eq_none (by rw [flTo_len]; omega), List.getElem?_eq_none (by omega)]
end

end Go.Proofs.Ytmgoaabeopnopaa
/- spec.l02Polygon. -/
namespace Go.Proofs.Ytmgoaabeopnopaa
open Go.RowKit

/-- Rows out of a literal of two slices. -/
theorem St.rowLit2 {w0 w : World} {Ps : List Pc} {i j t m m' c c' : Nat} {A A' : Option Addr} {xs ys : List Int} (h : St w0 w Ps) (hi : Ps[i]? = some (.own t A m c (ints xs))) (hj : Ps[j]? = some (.own t A' m' c' (ints ys))) (hij : i ≠ j) (hm : xs.length = m) (hm' : ys.length = m') (e : Nat) :
    St w0 (w.alloc (.cells #[.slice A m c, .slice A' m' c'] e)) (((Ps.set i .emp).set j .emp) ++ [.rows t e (some ⟨w.heap.size, 0, none⟩) 2 2 [.slice A m c, .slice A' m' c'] [xs, ys]]) := by
  have hil := (List.getElem?_eq_some_iff.1 hi).1
  have hjl := (List.getElem?_eq_some_iff.1 hj).1
  have h1 := h.addLit2 (.slice A m c) (.slice A' m' c') e
  have hbel := h1.below
  obtain ⟨Fs, g1, g2, g3⟩ := h1.sep
  have hlen : (Ps ++ [Pc.own e (some ⟨w.heap.size, 0, none⟩) 2 2 [.slice A m c, .slice A' m' c']]).length = Ps.length + 1 := by simp
  have p0 := g1 Ps.length _ (last_at _ _)
  have p1 := g1 i _ (by rw [List.getElem?_append_left hil]; exact hi)
  have p2 := g1 j _ (by rw [List.getElem?_append_left hjl]; exact hj)
  refine ⟨⟨fun k b => if k = i ∨ k = j then False else if k = Ps.length then Fs i b ∨ Fs j b ∨ Fs Ps.length b else Fs k b, fun k P hk => ?_, fun k b hk hb => ?_, fun a b k ha hb hab hka hkb => ?_⟩, hbel⟩
  · by_cases hki : k = i ∨ k = j
    · have hP : P = .emp := by
        have hkl : k < Ps.length := by rcases hki with rfl | rfl <;> assumption
        rw [List.getElem?_append_left (by simpa using hkl)] at hk
        by_cases hkj : k = j
        · subst hkj
          rw [List.getElem?_set_self (by simpa using hkl)] at hk
          injection hk with hk
          exact hk.symm
        · rw [List.getElem?_set_ne (fun e => hkj e.symm)] at hk
          obtain rfl : k = i := hki.resolve_right hkj
          rw [List.getElem?_set_self hkl] at hk
          injection hk with hk
          exact hk.symm
      subst hP
      trivial
    · simp only [if_neg hki]
      by_cases hkl : k = Ps.length
      · subst hkl
        have hP : P = .rows t e (some ⟨w.heap.size, 0, none⟩) 2 2 [.slice A m c, .slice A' m' c'] [xs, ys] := by
          have := last_at2 (Ps := Ps.set i .emp) (.rows t e (some ⟨w.heap.size, 0, none⟩) 2 2 [.slice A m c, .slice A' m' c'] [xs, ys]) .emp j
          rw [List.length_set] at this
          rw [this] at hk
          injection hk with hk
          exact hk.symm
        subst hP
        simp only [if_true]
        subst hm
        subst hm'
        refine ⟨p0.1, fun b hb => .inr (.inr (p0.2 b hb)), rfl, fun k zs hk => ?_, fun a b u v hab hu hv x hux hvx => ?_⟩
        · match k, hk with
          | 0, hk =>
            injection hk with hk
            subst hk
            exact ⟨A, c, rfl, p1.1, fun b hb => .inl (p1.2 b hb)⟩
          | 1, hk =>
            injection hk with hk
            subst hk
            exact ⟨A', c', rfl, p2.1, fun b hb => .inr (.inl (p2.2 b hb))⟩
        · have h1 := (List.getElem?_eq_some_iff.1 hu).1
          have h2 := (List.getElem?_eq_some_iff.1 hv).1
          simp at h1 h2
          have hdis : ∀ x, Fs i x → ¬ Fs j x := fun x => g3 i j x (by omega) (by omega) hij
          match a, b, hu, hv with
          | 0, 0, _, _ => exact hab rfl
          | 0, 1, hu, hv =>
            injection hu with hu
            injection hv with hv
            subst hu
            subst hv
            exact hdis x (p1.2 x hux) (p2.2 x hvx)
          | 1, 0, hu, hv =>
            injection hu with hu
            injection hv with hv
            subst hu
            subst hv
            exact hdis x (p1.2 x hvx) (p2.2 x hux)
          | 1, 1, _, _ => exact hab rfl
      · simp only [if_neg hkl]
        have hk2 := (List.getElem?_eq_some_iff.1 hk).1
        simp at hk2
        refine g1 k P ?_
        rw [List.getElem?_append_left (by simp; omega), List.getElem?_set_ne (fun e => hki (.inr e.symm)), List.getElem?_set_ne (fun e => hki (.inl e.symm))] at hk
        rw [List.getElem?_append_left (by omega)]
        exact hk
  · simp at hk
    by_cases hki : k = i ∨ k = j
    · simp only [if_pos hki] at hb
    · simp only [if_neg hki] at hb
      by_cases hkl : k = Ps.length
      · simp only [if_pos hkl] at hb
        rcases hb with hb | hb | hb
        · exact g2 i b (by omega) hb
        · exact g2 j b (by omega) hb
        · exact g2 Ps.length b (by omega) hb
      · simp only [if_neg hkl] at hb
        exact g2 k b (by omega) hb
  · simp at ha hb
    by_cases h1 : a = i ∨ a = j
    · simp only [if_pos h1] at hka
    · by_cases h2 : b = i ∨ b = j
      · simp only [if_pos h2] at hkb
      · simp only [if_neg h1] at hka
        simp only [if_neg h2] at hkb
        by_cases h3 : a = Ps.length
        · have h4 : ¬ b = Ps.length := fun e => hab (h3.trans e.symm)
          simp only [if_pos h3] at hka
          simp only [if_neg h4] at hkb
          rcases hka with hka | hka | hka
          · exact g3 i b k (by omega) (by omega) (fun e => h2 (.inl e.symm)) hka hkb
          · exact g3 j b k (by omega) (by omega) (fun e => h2 (.inr e.symm)) hka hkb
          · exact g3 Ps.length b k (by omega) (by omega) (fun e => h4 e.symm) hka hkb
        · simp only [if_neg h3] at hka
          by_cases h4 : b = Ps.length
          · simp only [if_pos h4] at hkb
            rcases hkb with hkb | hkb | hkb
            · exact g3 a i k (by omega) (by omega) (fun e => h1 (.inl e)) hka hkb
            · exact g3 a j k (by omega) (by omega) (fun e => h1 (.inr e)) hka hkb
            · exact g3 a Ps.length k (by omega) (by omega) h3 hka hkb
          · simp only [if_neg h4] at hkb
            exact g3 a b k (by omega) (by omega) hab hka hkb

theorem St.swap12 {w0 w : World} {a b c : Pc} (h : St w0 w [a, b, c]) : St w0 w [a, c, b] :=
  h.pick (fun i => if i = 1 then 2 else if i = 2 then 1 else i) (fun i hi => by
    match i, hi with
    | 0, _ => simp
    | 1, _ => simp
    | 2, _ => simp) (fun i hi => by
    match i, hi with
    | 0, _ => rfl
    | 1, _ => rfl
    | 2, _ => rfl) (fun i j hi hj h => by
    simp at hi hj ⊢
    split <;> split <;> (try split) <;> (try split) <;> omega)
theorem pg2_even {n f : Nat} (hf : f < n) (he : f % 2 = 0) : ((f : Int) + (n : Int) - 1) % (n : Int) = (pg2 n f : Nat) := by
  unfold pg2
  rw [if_pos he]
  by_cases h0 : f = 0
  · subst h0
    rw [if_pos rfl, Int.emod_eq_of_lt (by omega) (by omega)]
    omega
  · rw [if_neg h0]
    have e : (f : Int) + (n : Int) - 1 = ((f - 1 : Nat) : Int) + (n : Int) := by omega
    rw [e, Int.add_emod_right, Int.emod_eq_of_lt (by omega) (by omega)]
theorem pg2_odd {n f : Nat} (hf : f < n) (he : ¬ f % 2 = 0) : ((f : Int) + 1) % (n : Int) = (pg2 n f : Nat) := by
  unfold pg2
  rw [if_neg he]
  by_cases h0 : f + 1 = n
  · rw [if_pos h0]
    have e : (f : Int) + 1 = (n : Int) := by omega
    rw [e, Int.emod_self]
    rfl
  · rw [if_neg h0, Int.emod_eq_of_lt (by omega) (by omega)]
    omega

set_option maxRecDepth 8000 in
set_option maxHeartbeats 3200000 in
theorem polyg_any {p n : Nat} (w : World) (hp : 1 ≤ p) (hn : n = 2 * p) (hn4 : n ≤ 400) :
    Calls Try.prog 158 #[.int .i64 p] w fun e w' => ∃ (A' : Option Addr) (c' : Nat) (vals : List Value), e = .returned (.agg #[.slice A' 2 c']) ∧ St w w' [.rows 2 36 A' 2 c' vals (pgL n)] := by
  obtain ⟨L1, hL1⟩ : ∃ L, L = (List.range n).map fun x => ((pg1 x : Nat) : Int) := ⟨_, rfl⟩
  obtain ⟨L2, hL2⟩ : ∃ L, L = (List.range n).map fun x => ((pg2 n x : Nat) : Int) := ⟨_, rfl⟩
  have hpg : pgL n = [L1, L2] := by rw [hL1, hL2]; rfl
  have l1 : L1.length = n := by rw [hL1]; simp
  have l2 : L2.length = n := by rw [hL2]; simp
  have a1 : ∀ f, f < n → L1[f]? = some ((pg1 f : Nat) : Int) := fun f hf => by rw [hL1]; simp [hf]
  have a2 : ∀ f, f < n → L2[f]? = some ((pg2 n f : Nat) : Int) := fun f hf => by rw [hL2]; simp [hf]
  rw [hpg]
  have LN1 := Lib.hid l1
  have LN2 := Lib.hid l2
  have A1 := Lib.hid a1
  have A2 := Lib.hid a2
  have hmk := run_make_row' (P := Try.prog) 36 2 (.int .i64 0) 8 Try.underlying36 Try.info2 rfl .i64 .i64 n (by omega) (by omega)
  have hmul : 2 * (p : Int) = (n : Int) := by omega
  have hn1 : 1 ≤ n := by omega
  have HN := Lib.hid hn
  have st0 := ((((St.start w).addBlk #[.slice none 0 0] 27).go (below_drewN (Below.refl _ _) 1)).addMake (.int .i64 0) n 2 (by unfold maxLen; omega)).addMake (.int .i64 0) n 2 (by unfold maxLen; omega)
  simp at st0
  have S0 := Lib.hid st0
  clear l1 l2 a1 a2 hpg hL1 hL2 st0 hn
  go_enter Try.func158, Try.ntmps158
  go_wp2
  go_region
  · have S1 := Lib.hid (show St w _ [.blk w.heap.size #[.slice none 0 0] 27, .own 2 (some ⟨w.heap.size + 1, 0, none⟩) n n (ints (flTo L1 n 0)), .own 2 (some ⟨w.heap.size + 1 + 1, 0, none⟩) n n (ints (flTo L2 n 0))] from by rw [flTo_zero, flTo_zero]; simpa [ints] using S0.out)
    obtain ⟨gF, hF⟩ : ∃ g, w.heap.size + 1 = g := ⟨_, rfl⟩
    obtain ⟨gS, hS⟩ : ∃ g, w.heap.size + 1 + 1 = g := ⟨_, rfl⟩
    rw [hS, hF] at S1
    go_wp2
    rw [hS, hF]
    clear hmk S0 hF hS
    go_loopw [6] (fun q wr => ∃ f : Nat, f ≤ n ∧ q = .int .i64 f ∧ St w wr [.blk w.heap.size #[.slice none 0 0] 27, .own 2 (some ⟨gF, 0, none⟩) n n (ints (flTo L1 n f)), .own 2 (some ⟨gS, 0, none⟩) n n (ints (flTo L2 n f))]) (fun q _ => n - (intOf q).toNat)
    case atStart => exact ⟨0, Nat.zero_le _, rfl, S1.out⟩
    case round =>
      obtain ⟨f, hf, rfl, st⟩ := hrel
      clear S1
      by_cases hfn : f < n
      · obtain ⟨u, hu⟩ := ints_at (xs := flTo L1 n f) (n := n) flTo_len hfn
        have c1 := own_cell (st.own (i := 1) rfl) hu
        have f1 := (st.own (i := 1) rfl).frozenAt f
        have st2 := st.store (i := 1) rfl f (.int .i64 ((pg1 f : Nat) : Int))
        rw [ints_set, flTo_step hfn (A1.out f hfn)] at st2
        obtain ⟨v, hv⟩ := ints_at (xs := flTo L2 n f) (n := n) flTo_len hfn
        have c2 := own_cell (st2.own (i := 2) rfl) hv
        have f2 := (st2.own (i := 2) rfl).frozenAt f
        have st3 := st2.store (i := 2) rfl f (.int .i64 ((pg2 n f : Nat) : Int))
        rw [ints_set, flTo_step hfn (A2.out f hfn)] at st3
        have fI : (f : Int) < (n : Int) := by omega
        by_cases he : f % 2 = 0
        · have e1 : ((pg1 f : Nat) : Int) = (f : Int) + 1 := by unfold pg1; rw [if_pos he]; omega
          have e2 := pg2_even hfn he
          rw [← e2, e1] at st3
          rw [e1] at c2 f2
          have S3 := Lib.hid st3
          have hpar : (f : Int) % 2 = 0 := by omega
          clear st st2 st3 hu hv e1 e2 he
          go_wp2
          go_roundw
          case rel => exact ⟨f + 1, by omega, by go_num, S3.out⟩
          case measure => simp [intOf]; omega
        · have e1 : ((pg1 f : Nat) : Int) = (f : Int) - 1 := by unfold pg1; rw [if_neg he]; omega
          have e2 := pg2_odd hfn he
          rw [← e2, e1] at st3
          rw [e1] at c2 f2
          have S3 := Lib.hid st3
          have hpar : (f : Int) % 2 = 1 := by omega
          clear st st2 st3 hu hv e1 e2 he
          go_wp2
          go_roundw
          case rel => exact ⟨f + 1, by omega, by go_num, S3.out⟩
          case measure => simp [intOf]; omega
      · obtain rfl : f = n := by omega
        rw [flTo_all LN1.out, flTo_all LN2.out] at st
        have st2 := st.rowLit2 (i := 1) (j := 2) rfl rfl (by decide) LN1.out LN2.out 36
        have z0 := (st2.blk (i := 0) rfl).cell (i := 0) rfl
        have f0 := (st2.blk (i := 0) rfl).free 0
        have S3 := Lib.hid st2
        clear st st2
        go_wp2
        have st4 := S3.out.blkSet (i := 0) rfl 0 (.slice (some ⟨wr.heap.size, 0, none⟩) 2 2)
        have y0 := (st4.blk (i := 0) rfl).cell (i := 0) rfl
        refine bodyPost_ret (v := .agg #[.slice (some ⟨wr.heap.size, 0, none⟩) 2 2]) (by simp [results, Try.results158, go_sem, y0]) rfl ⟨_, 2, [.slice (some ⟨gF, 0, none⟩) f f, .slice (some ⟨gS, 0, none⟩) f f], rfl, ?_⟩
        exact st4.pick (fun i => i + 3) (fun i hi => by simp at hi ⊢; omega) (fun i hi => by match i, hi with | 0, _ => rfl) (fun i j _ _ h => by omega)
  · have S1 := Lib.hid (show St w _ [.blk w.heap.size #[.slice none 0 0] 27, .own 2 (some ⟨w.heap.size + 1 + 1, 0, none⟩) n n (ints (flTo L1 n 0)), .own 2 (some ⟨w.heap.size + 1, 0, none⟩) n n (ints (flTo L2 n 0))] from by rw [flTo_zero, flTo_zero]; simpa [ints] using S0.out.swap12)
    obtain ⟨gF, hF⟩ : ∃ g, w.heap.size + 1 + 1 = g := ⟨_, rfl⟩
    obtain ⟨gS, hS⟩ : ∃ g, w.heap.size + 1 = g := ⟨_, rfl⟩
    rw [hF, hS] at S1
    go_wp2
    rw [hF, hS]
    clear hmk S0 hF hS
    go_loopw [6] (fun q wr => ∃ f : Nat, f ≤ n ∧ q = .int .i64 f ∧ St w wr [.blk w.heap.size #[.slice none 0 0] 27, .own 2 (some ⟨gF, 0, none⟩) n n (ints (flTo L1 n f)), .own 2 (some ⟨gS, 0, none⟩) n n (ints (flTo L2 n f))]) (fun q _ => n - (intOf q).toNat)
    case atStart => exact ⟨0, Nat.zero_le _, rfl, S1.out⟩
    case round =>
      obtain ⟨f, hf, rfl, st⟩ := hrel
      clear S1
      by_cases hfn : f < n
      · obtain ⟨u, hu⟩ := ints_at (xs := flTo L1 n f) (n := n) flTo_len hfn
        have c1 := own_cell (st.own (i := 1) rfl) hu
        have f1 := (st.own (i := 1) rfl).frozenAt f
        have st2 := st.store (i := 1) rfl f (.int .i64 ((pg1 f : Nat) : Int))
        rw [ints_set, flTo_step hfn (A1.out f hfn)] at st2
        obtain ⟨v, hv⟩ := ints_at (xs := flTo L2 n f) (n := n) flTo_len hfn
        have c2 := own_cell (st2.own (i := 2) rfl) hv
        have f2 := (st2.own (i := 2) rfl).frozenAt f
        have st3 := st2.store (i := 2) rfl f (.int .i64 ((pg2 n f : Nat) : Int))
        rw [ints_set, flTo_step hfn (A2.out f hfn)] at st3
        have fI : (f : Int) < (n : Int) := by omega
        by_cases he : f % 2 = 0
        · have e1 : ((pg1 f : Nat) : Int) = (f : Int) + 1 := by unfold pg1; rw [if_pos he]; omega
          have e2 := pg2_even hfn he
          rw [← e2, e1] at st3
          rw [e1] at c2 f2
          have S3 := Lib.hid st3
          have hpar : (f : Int) % 2 = 0 := by omega
          clear st st2 st3 hu hv e1 e2 he
          go_wp2
          go_roundw
          case rel => exact ⟨f + 1, by omega, by go_num, S3.out⟩
          case measure => simp [intOf]; omega
        · have e1 : ((pg1 f : Nat) : Int) = (f : Int) - 1 := by unfold pg1; rw [if_neg he]; omega
          have e2 := pg2_odd hfn he
          rw [← e2, e1] at st3
          rw [e1] at c2 f2
          have S3 := Lib.hid st3
          have hpar : (f : Int) % 2 = 1 := by omega
          clear st st2 st3 hu hv e1 e2 he
          go_wp2
          go_roundw
          case rel => exact ⟨f + 1, by omega, by go_num, S3.out⟩
          case measure => simp [intOf]; omega
      · obtain rfl : f = n := by omega
        rw [flTo_all LN1.out, flTo_all LN2.out] at st
        have st2 := st.rowLit2 (i := 1) (j := 2) rfl rfl (by decide) LN1.out LN2.out 36
        have z0 := (st2.blk (i := 0) rfl).cell (i := 0) rfl
        have f0 := (st2.blk (i := 0) rfl).free 0
        have S3 := Lib.hid st2
        clear st st2
        go_wp2
        have st4 := S3.out.blkSet (i := 0) rfl 0 (.slice (some ⟨wr.heap.size, 0, none⟩) 2 2)
        have y0 := (st4.blk (i := 0) rfl).cell (i := 0) rfl
        refine bodyPost_ret (v := .agg #[.slice (some ⟨wr.heap.size, 0, none⟩) 2 2]) (by simp [results, Try.results158, go_sem, y0]) rfl ⟨_, 2, [.slice (some ⟨gF, 0, none⟩) f f, .slice (some ⟨gS, 0, none⟩) f f], rfl, ?_⟩
        exact st4.pick (fun i => i + 3) (fun i hi => by simp at hi ⊢; omega) (fun i hi => by match i, hi with | 0, _ => rfl) (fun i j _ _ h => by omega)
end Go.Proofs.Ytmgoaabeopnopaa
/- spec.l02Map. -/
namespace Go.Proofs.Ytmgoaabeopnopaa
open Go.RowKit

/-- Rows out of a literal of three slices. -/
theorem St.rowLit3 {w0 w : World} {Ps : List Pc} {t m c1 c2 c3 : Nat} {A1 A2 A3 : Option Addr} {xs ys zs : List Int} (h : St w0 w (.own t A1 m c1 (ints xs) :: .own t A2 m c2 (ints ys) :: .own t A3 m c3 (ints zs) :: Ps)) (hx : xs.length = m) (hy : ys.length = m) (hz : zs.length = m) (e : Nat) :
    St w0 (w.alloc (.cells #[.slice A1 m c1, .slice A2 m c2, .slice A3 m c3] e)) (Ps ++ [.rows t e (some ⟨w.heap.size, 0, none⟩) 3 3 [.slice A1 m c1, .slice A2 m c2, .slice A3 m c3] [xs, ys, zs]]) := by
  have h1 := h.addOwn (base := w.heap.size) (e := e) (A := some ⟨w.heap.size, 0, none⟩) (n := 3) (c := 3) (vs := [.slice A1 m c1, .slice A2 m c2, .slice A3 m c3]) ((Below.refl _ _).alloc (Nat.le_refl _) _) (by simpa using World.ownsRow_lit (base := w.heap.size) (e := e) (size := 1) w #[.slice A1 m c1, .slice A2 m c2, .slice A3 m c3] 3 (Nat.le_refl _) (by decide) (by simp)) (Nat.le_refl _)
  have hbel := h1.below
  obtain ⟨Fs, g1, g2, g3⟩ := h1.sep
  have p0 := g1 (Ps.length + 3) _ (by
    have := last_at (Pc.own t A1 m c1 (ints xs) :: .own t A2 m c2 (ints ys) :: .own t A3 m c3 (ints zs) :: Ps) (Pc.own e (some ⟨w.heap.size, 0, none⟩) 3 3 [.slice A1 m c1, .slice A2 m c2, .slice A3 m c3])
    exact this)
  have p1 := g1 0 _ rfl
  have p2 := g1 1 _ rfl
  have p3 := g1 2 _ rfl
  have hl : (Pc.own t A1 m c1 (ints xs) :: .own t A2 m c2 (ints ys) :: .own t A3 m c3 (ints zs) :: Ps ++ [Pc.own e (some ⟨w.heap.size, 0, none⟩) 3 3 [.slice A1 m c1, .slice A2 m c2, .slice A3 m c3]]).length = Ps.length + 4 := by simp
  refine ⟨⟨fun k b => if k = Ps.length then Fs 0 b ∨ Fs 1 b ∨ Fs 2 b ∨ Fs (Ps.length + 3) b else Fs (k + 3) b, fun k P hk => ?_, fun k b hk hb => ?_, fun a b k ha hb hab hka hkb => ?_⟩, hbel⟩
  · by_cases hkl : k = Ps.length
    · subst hkl
      rw [last_at] at hk
      injection hk with hk
      subst hk
      simp only [if_true]
      refine ⟨p0.1, fun b hb => .inr (.inr (.inr (p0.2 b hb))), rfl, fun k us hk => ?_, fun a b u v hab hu hv x hux hvx => ?_⟩
      · match k, hk with
        | 0, hk =>
          injection hk with hk
          subst hk
          exact ⟨A1, c1, by rw [hx]; rfl, by rw [hx]; exact p1.1, fun b hb => .inl (p1.2 b (by rw [← hx]; exact hb))⟩
        | 1, hk =>
          injection hk with hk
          subst hk
          exact ⟨A2, c2, by rw [hy]; rfl, by rw [hy]; exact p2.1, fun b hb => .inr (.inl (p2.2 b (by rw [← hy]; exact hb)))⟩
        | 2, hk =>
          injection hk with hk
          subst hk
          exact ⟨A3, c3, by rw [hz]; rfl, by rw [hz]; exact p3.1, fun b hb => .inr (.inr (.inl (p3.2 b (by rw [← hz]; exact hb))))⟩
      · have own : ∀ (i : Nat) (u : Value), [Value.slice A1 m c1, .slice A2 m c2, .slice A3 m c3][i]? = some u → i < 3 ∧ ∀ x, u.ownBlock = some x → Fs i x := fun i u hu => by
          match i, hu with
          | 0, hu => injection hu with hu; subst hu; exact ⟨by omega, p1.2⟩
          | 1, hu => injection hu with hu; subst hu; exact ⟨by omega, p2.2⟩
          | 2, hu => injection hu with hu; subst hu; exact ⟨by omega, p3.2⟩
        obtain ⟨la, ha⟩ := own a u hu
        obtain ⟨lb, hb⟩ := own b v hv
        exact g3 a b x (by rw [hl]; omega) (by rw [hl]; omega) hab (ha x hux) (hb x hvx)
    · simp only [if_neg hkl]
      have hk2 := (List.getElem?_eq_some_iff.1 hk).1
      simp at hk2
      refine g1 (k + 3) P ?_
      rw [List.getElem?_append_left (by omega)] at hk
      show (Ps ++ [_])[k]? = some P
      rw [List.getElem?_append_left (by omega)]
      exact hk
  · simp at hk
    by_cases hkl : k = Ps.length
    · simp only [if_pos hkl] at hb
      rcases hb with hb | hb | hb | hb
      · exact g2 0 b (by rw [hl]; omega) hb
      · exact g2 1 b (by rw [hl]; omega) hb
      · exact g2 2 b (by rw [hl]; omega) hb
      · exact g2 (Ps.length + 3) b (by rw [hl]; omega) hb
    · simp only [if_neg hkl] at hb
      exact g2 (k + 3) b (by rw [hl]; omega) hb
  · simp at ha hb
    by_cases h3 : a = Ps.length
    · have h4 : ¬ b = Ps.length := fun e => hab (h3.trans e.symm)
      simp only [if_pos h3] at hka
      simp only [if_neg h4] at hkb
      rcases hka with hka | hka | hka | hka
      · exact g3 0 (b + 3) k (by rw [hl]; omega) (by rw [hl]; omega) (by omega) hka hkb
      · exact g3 1 (b + 3) k (by rw [hl]; omega) (by rw [hl]; omega) (by omega) hka hkb
      · exact g3 2 (b + 3) k (by rw [hl]; omega) (by rw [hl]; omega) (by omega) hka hkb
      · exact g3 (Ps.length + 3) (b + 3) k (by rw [hl]; omega) (by rw [hl]; omega) (by omega) hka hkb
    · simp only [if_neg h3] at hka
      by_cases h4 : b = Ps.length
      · simp only [if_pos h4] at hkb
        rcases hkb with hkb | hkb | hkb | hkb
        · exact g3 (a + 3) 0 k (by rw [hl]; omega) (by rw [hl]; omega) (by omega) hka hkb
        · exact g3 (a + 3) 1 k (by rw [hl]; omega) (by rw [hl]; omega) (by omega) hka hkb
        · exact g3 (a + 3) 2 k (by rw [hl]; omega) (by rw [hl]; omega) (by omega) hka hkb
        · exact g3 (a + 3) (Ps.length + 3) k (by rw [hl]; omega) (by rw [hl]; omega) (by omega) hka hkb
      · simp only [if_neg h4] at hkb
        exact g3 (a + 3) (b + 3) k (by rw [hl]; omega) (by rw [hl]; omega) (by omega) hka hkb
theorem bits_xor_i64 (a b : Nat) (ha : a < 4294967296) (hb : b < 4294967296) : bits .xor .i64 (a : Int) (b : Int) = ((a ^^^ b : Nat) : Int) := by
  have hx : a ^^^ b < 2 ^ 32 := Nat.xor_lt_two_pow (by omega) (by omega)
  have h1 : (BitVec.ofInt 64 (a : Int)).toNat = a := by
    rw [BitVec.ofInt_natCast, BitVec.toNat_ofNat]; exact Nat.mod_eq_of_lt (by omega)
  have h2 : (BitVec.ofInt 64 (b : Int)).toNat = b := by
    rw [BitVec.ofInt_natCast, BitVec.toNat_ofNat]; exact Nat.mod_eq_of_lt (by omega)
  show IntKind.i64.wrap ((BitVec.ofInt 64 (a : Int) ^^^ BitVec.ofInt 64 (b : Int)).toNat : Int) = _
  rw [BitVec.toNat_xor, h1, h2]
  exact IntWalk.i64_in _ (by omega)
theorem xoL_len {n k : Nat} : (xoL n k).length = n := by simp [xoL]
theorem xoL_succ {n k f : Nat} (h : f < n) : (xoL n k).take (f + 1) = (xoL n k).take f ++ [((f ^^^ k : Nat) : Int)] := by
  rw [List.take_add_one]
  simp [xoL, h]

/-- A drawn maniplex. -/
def RetDM (w : World) (g : Nat) (A : Option Addr) (n c : Nat) (bs : List Value) (most : Nat) (e : Ending) (w' : World) : Prop :=
  ∃ (wb : World) (A' : Option Addr) (N c' m : Nat) (vals : List Value) (xss : List (List Int)), e = .returned (.agg #[.slice A' N c']) ∧ xss.length = N ∧ OkI m xss ∧ m ≤ most ∧ Dr g A n c bs w wb ∧ St wb w' [.rows 2 36 A' N c' vals xss]
abbrev mapA (H : Nat) (n c2 : Nat) (A2 : Option Addr) (p : List Int) (f c0 c1 : Nat) (A0 A1 : Option Addr) : List Pc :=
  [.blk H #[.slice none 0 0] 27, .own 2 A0 f c0 (ints ((xoL n 1).take f)), .own 2 A1 f c1 (ints ((xoL n 2).take f)), .own 2 A2 n c2 (ints p)]
abbrev mapB (H g1 : Nat) (vs : List Value) (l c2 n gN : Nat) (A2 : Option Addr) (xss : List (List Int)) (ord nums : List Int) : List Pc :=
  [.blk H #[.slice none 0 0] 27, .rows 2 36 (some ⟨g1, 0, none⟩) 3 3 vs xss, .own 2 A2 l c2 (ints ord), .own 2 (some ⟨gN, 0, none⟩) n n (ints nums)]
section
variable {A : Option Addr} {g n c : Nat} {bs : List Value}
set_option maxRecDepth 100000 in
set_option maxHeartbeats 6400000 in
theorem mapP {E : Nat} (w : World) (hs : SrcE w g A n c bs) (hn : n ≤ 1048576) (hE : 1 ≤ E) (hE4 : 4 * E ≤ 400) :
    Calls Try.prog 115 #[.pointer (some ⟨g, 0, none⟩), .int .i64 E] w (RetDM w g A n c bs (4 * E)) := by
  obtain ⟨N, hN⟩ : ∃ N, 4 * E = N := ⟨_, rfl⟩
  have hN4 : N ≤ 400 := by omega
  have hNI : 4 * (E : Int) = (N : Int) := by omega
  have hN1 : 4 ≤ N := by omega
  have hinv1 : InvL N (xoL N 1) := by rw [← hN]; exact xo1_inv
  have hinv2 : InvL N (xoL N 2) := by rw [← hN]; exact xo2_inv
  have hev : N % 2 = 0 := by omega
  have hmk := run_make_row' (P := Try.prog) 36 2 (.int .i64 0) 8 Try.underlying36 Try.info2 rfl .i64 .i64 N (by omega) (by omega)
  have HI1 := Lib.hid hinv1
  have HI2 := Lib.hid hinv2
  have HEV := Lib.hid hev
  have hH := hs.lt
  have st0 := (((St.start w).addBlk #[.slice none 0 0] 27).addMade 2).addMade 2
  simp at st0
  have S0 := Lib.hid st0
  have D0 := Lib.hid (Dr.start hs)
  rw [hN]
  clear hs st0 hinv1 hinv2 hev hN hE4
  go_enter Try.func115, Try.ntmps115
  go_wp2_with fail
  refine (matchP _ (D0.out.now S0.out) hn hN4).mono ?_
  rintro e w1 ⟨wb1, A2, c2, p, rfl, hpl, hinv, d1, st1⟩
  obtain ⟨wb, d, st⟩ := D0.out.join S0.out d1 st1
  have D1 := Lib.hid d
  have HPL := Lib.hid hpl
  have HIP := Lib.hid (hinv HEV.out)
  have S1 := Lib.hid (show St wb w1 (mapA w.heap.size N c2 A2 p 0 0 0 (some ⟨w.heap.size + 1, 0, none⟩) (some ⟨w.heap.size + 1 + 1, 0, none⟩)) from st)
  clear d d1 st1 st hpl hinv S0 D0
  go_wp2
  go_loopw [6, 7, 9] (fun u v q wr => ∃ (f c0 c1 : Nat) (A0 A1 : Option Addr), f ≤ N ∧ u = .slice A0 f c0 ∧ v = .slice A1 f c1 ∧ q = .int .i64 f ∧ St wb wr (mapA w.heap.size N c2 A2 p f c0 c1 A0 A1)) (fun _ _ q _ => N - (intOf q).toNat)
  case atStart => exact ⟨0, 0, 0, _, _, Nat.zero_le _, rfl, rfl, rfl, S1.out⟩
  case round =>
    obtain ⟨f, c0, c1, A0, A1, hf, rfl, rfl, rfl, st⟩ := hrel
    clear S1
    by_cases hfN : f < N
    · have fI : (f : Int) < (N : Int) := by omega
      have hlo := st.lo
      have X1 := Lib.hid (xoL_succ (k := 1) hfN)
      have X2 := Lib.hid (xoL_succ (k := 2) hfN)
      have x1 : bits .xor .i64 (f : Int) 1 = ((f ^^^ 1 : Nat) : Int) := bits_xor_i64 f 1 (by omega) (by omega)
      have x2 : bits .xor .i64 (f : Int) 2 = ((f ^^^ 2 : Nat) : Int) := bits_xor_i64 f 2 (by omega) (by omega)
      have S2 := Lib.hid st
      clear st
      go_wp2_with (at_builtin; refine wpList_push_at _ rfl _ _ 36 2 rfl Try.underlying36 (.int .i64 0) 8 Try.info2 rfl wb.heap.size _ _ _ rfl (S2.out.own (i := 1) rfl) _ rfl rfl (by omega) (by omega) hlo ?_)
      intro A7 c7 w7 own7 gr7 hat7
      have own8 : w7.ownsRow wb.heap.size 2 1 (.slice A7 (f + 1) c7) (f + 1) (ints ((xoL N 1).take (f + 1))) := by
        rw [X1.out]
        simpa [ints] using own7
      have S3 := Lib.hid (S2.out.push (i := 1) rfl own8 gr7 hat7)
      have hlo3 := S3.out.lo
      clear own7 own8 gr7 hat7
      go_wp2_with (at_builtin; refine wpList_push_at _ rfl _ _ 36 2 rfl Try.underlying36 (.int .i64 0) 8 Try.info2 rfl wb.heap.size _ _ _ rfl (S3.out.own (i := 2) rfl) _ rfl rfl (by omega) (by omega) hlo3 ?_)
      intro A8 c8 w8 own9 gr9 hat9
      have own10 : w8.ownsRow wb.heap.size 2 1 (.slice A8 (f + 1) c8) (f + 1) (ints ((xoL N 2).take (f + 1))) := by
        rw [X2.out]
        simpa [ints] using own9
      have S4 := Lib.hid (S3.out.push (i := 2) rfl own10 gr9 hat9)
      clear own9 own10 gr9 hat9 x1 x2
      go_wp2
      go_roundw
      case rel => exact ⟨f + 1, _, _, _, _, by omega, rfl, rfl, by go_num, S4.out⟩
      case measure => simp [intOf]; omega
    · obtain rfl : f = N := by omega
      obtain ⟨wz, hwz⟩ : ∃ wz, wz = wr := ⟨_, rfl⟩
      subst hwz
      have st1 : St wb wz [.blk w.heap.size #[.slice none 0 0] 27, .own 2 A0 f c0 (ints (xoL f 1)), .own 2 A1 f c1 (ints (xoL f 2)), .own 2 A2 f c2 (ints p)] := by
        have h := st
        unfold mapA at h
        rw [List.take_of_length_le (by rw [xoL_len]; exact Nat.le_refl _), List.take_of_length_le (by rw [xoL_len]; exact Nat.le_refl _)] at h
        exact h
      have st2 : St wb wz [.own 2 A0 f c0 (ints (xoL f 1)), .own 2 A2 f c2 (ints p), .own 2 A1 f c1 (ints (xoL f 2)), .blk w.heap.size #[.slice none 0 0] 27] :=
        st1.pick (fun i => if i = 0 then 1 else if i = 1 then 3 else if i = 2 then 2 else 0) (fun i hi => by simp at hi ⊢; split <;> (try split) <;> (try split) <;> omega) (fun i hi => by
          match i, hi with
          | 0, _ => rfl
          | 1, _ => rfl
          | 2, _ => rfl
          | 3, _ => rfl) (fun i j hi hj h => by simp at hi hj ⊢; split <;> split <;> (try split) <;> (try split) <;> (try split) <;> (try split) <;> omega)
      have st3 := st2.rowLit3 (Ps := [.blk w.heap.size #[.slice none 0 0] 27]) xoL_len HPL.out xoL_len 36
      obtain ⟨xss, hxs⟩ : ∃ xss, [xoL f 1, p, xoL f 2] = xss := ⟨_, rfl⟩
      obtain ⟨vs, hvs⟩ : ∃ vs, vs = [Value.slice A0 f c0, .slice A2 f c2, .slice A1 f c1] := ⟨_, rfl⟩
      have hok : OkI f xss := by
        rw [← hxs]
        refine ⟨fun xs hx => ?_, by omega, hN4, by simp, by simp⟩
        simp only [List.mem_cons, List.not_mem_nil, or_false] at hx
        rcases hx with rfl | rfl | rfl
        · exact HI1.out
        · exact HIP.out
        · exact HI2.out
      have hxl : xss.length = 3 := by rw [← hxs]; rfl
      rw [hxs] at st3
      have RD3 := Lib.hid (ownSS_rd (st3.sep.ownSS (i := 1) rfl))
      have HOK := Lib.hid hok
      have HXL := Lib.hid hxl
      have S3 := Lib.hid st3
      clear st st1 st2 st3 hxs hok hxl HI1 HI2 HIP HPL
      go_wp2_with fail
      refine (sorb_any (p := 0) _ HXL.out RD3.out (by omega) HOK.out.sys (by omega)).mono ?_
      rintro e w2 ⟨A3, c3, rfl, own3, bel3⟩
      obtain ⟨hpa, hfm, hcl⟩ := orb_facts (f := 0) HOK.out.sys (by omega)
      obtain ⟨ord, hord⟩ : ∃ l, orbL xss f ((0 : Nat) : Int) = l := ⟨_, rfl⟩
      have hol : ord.length ≤ f := by rw [← hord]; exact passed_len hpa
      obtain ⟨l, hl⟩ : ∃ l, ord.length = l := ⟨_, rfl⟩
      rw [hl] at hol
      have hSL : (secL xss f 0).length = 3 := by rw [secL_len, HXL.out]
      rw [hord] at hpa hcl own3 ⊢
      rw [hl] at own3 ⊢
      have HORD := Lib.hid hord
      have HL := Lib.hid hl
      have HPA := Lib.hid hpa
      have HCL := Lib.hid hcl
      have HSL := Lib.hid hSL
      have S4 := Lib.hid (show St wb (w2.alloc (.cells (madeCells #[.int .i64 0] f) 2)) (mapB w.heap.size wz.heap.size vs l c3 f w2.heap.size A3 xss ord (numTo ord f 0)) from by
        have h := (S3.out.addOwn bel3 own3 (by simp)).addMake (.int .i64 0) f 2 (by unfold maxLen; omega)
        rw [hvs, numTo_zero]
        simpa [mapB, ints] using h)
      clear hord hl hpa hcl hSL own3 bel3 S3 RD3 hfm hvs
      go_wp2
      clear hmk
      go_loopw [13] (fun v wr => ∃ j : Nat, j ≤ l ∧ v = .int .i64 j ∧ St wb wr (mapB w.heap.size wz.heap.size vs l c3 f w2.heap.size A3 xss ord (numTo ord f j))) (fun v _ => l - (intOf v).toNat)
      case atStart => exact ⟨0, Nat.zero_le _, rfl, S4.out⟩
      case round =>
        obtain ⟨j, hj, rfl, st⟩ := hrel
        clear S4
        by_cases hjl : j < l
        · obtain ⟨x, hx⟩ : ∃ x, ord[j]? = some x := ⟨_, List.getElem?_eq_getElem (by rw [HL.out]; exact hjl)⟩
          have hxb := HPA.out.1 x (List.mem_of_getElem? hx)
          obtain ⟨y, rfl⟩ := Int.eq_ofNat_of_zero_le hxb.1
          have hyn : y < f := by omega
          obtain ⟨gA, rfl⟩ := own_shape (st.own (i := 2) rfl) (show 0 < l by omega)
          have c1' := own_cell (st.own (i := 2) rfl) (show (ints ord)[j]? = some (.int .i64 (y : Int)) by simp [hx])
          obtain ⟨u, hu⟩ : ∃ u, (ints (numTo ord f j))[y]? = some u := ⟨_, List.getElem?_eq_getElem (by simp [numTo_len]; exact hyn)⟩
          have c3' := own_cell (st.own (i := 3) rfl) hu
          have f3' := (st.own (i := 3) rfl).frozenAt y
          have st3 := st.store (i := 3) rfl y (.int .i64 (j : Int))
          rw [ints_set, numTo_step HPA.out hx] at st3
          have S3 := Lib.hid st3
          have yI : (y : Int) < (f : Int) := by omega
          clear st st3 hx hu hxb
          go_wp2
          go_roundw
          case rel => exact ⟨j + 1, by omega, by go_num, S3.out⟩
          case measure => simp [intOf]; omega
        · obtain rfl : j = l := by omega
          have S4 := Lib.hid (show St wb (wr.alloc (.cells #[.slice none 0 0] 27)) (mapB w.heap.size wz.heap.size vs j c3 f w2.heap.size A3 xss ord (numTo ord f j) ++ [.blk wr.heap.size #[.slice none 0 0] 27, .rows 2 36 none 0 0 [] ((secL xss f 0).take 0)]) from (st.addBlk #[.slice none 0 0] 27).addNilRows 2 36)
          obtain ⟨wq, hwq⟩ : ∃ wq, wq = wr := ⟨_, rfl⟩
          subst hwq
          clear st
          go_wp2
          go_loopw [15] (fun v wr => ∃ (r cR : Nat) (AR : Option Addr) (vals : List Value), r ≤ 3 ∧ v = .int .i64 r ∧ St wb wr (mapB w.heap.size wz.heap.size vs j c3 f w2.heap.size A3 xss ord (numTo ord f j) ++ [.blk wq.heap.size #[.slice AR r cR] 27, .rows 2 36 AR r cR vals ((secL xss f 0).take r)])) (fun v _ => 3 - (intOf v).toNat)
          case atStart => exact ⟨0, 0, none, [], Nat.zero_le _, rfl, S4.out⟩
          case round =>
            obtain ⟨r, cR, AR, vals, hr, rfl, st⟩ := hrel
            clear S4
            by_cases hr3 : r < 3
            · have r3I : (r : Int) < 3 := by omega
              obtain ⟨mv, hmv⟩ : ∃ mv, xss[r]? = some mv := ⟨_, List.getElem?_eq_getElem (by rw [HXL.out]; exact hr3)⟩
              have hml := (HOK.out.inv mv (List.mem_of_getElem? hmv)).1
              have S5 := Lib.hid (st.addMade 2)
              have HMV := Lib.hid hmv
              have hsl2 : (secRow ord mv).length = j := by rw [secRow_len, HL.out]
              have HSL2 := Lib.hid hsl2
              have HSL4 := Lib.hid (secL_succ (n := f) (f := 0) hmv)
              obtain ⟨wo, hwo⟩ : ∃ wo, wo = wr := ⟨_, rfl⟩
              subst hwo
              clear st hmv hsl2
              go_wp2
              go_loopw [16, 17] (fun u v wr => ∃ (t c6 : Nat) (A6 : Option Addr), t ≤ j ∧ u = .slice A6 t c6 ∧ v = .int .i64 t ∧ St wb wr (mapB w.heap.size wz.heap.size vs j c3 f w2.heap.size A3 xss ord (numTo ord f j) ++ [.blk wq.heap.size #[.slice AR r cR] 27, .rows 2 36 AR r cR vals ((secL xss f 0).take r), .own 2 A6 t c6 (ints ((secRow ord mv).take t))])) (fun _ v _ => j - (intOf v).toNat)
              case atStart => exact ⟨0, 0, _, Nat.zero_le _, rfl, rfl, S5.out⟩
              case round =>
                obtain ⟨t, c6, A6, ht, rfl, rfl, st⟩ := hrel
                clear S5
                by_cases htj : t < j
                · obtain ⟨x, hx⟩ : ∃ x, ord[t]? = some x := ⟨_, List.getElem?_eq_getElem (by rw [HL.out]; exact htj)⟩
                  have hxb := HPA.out.1 x (List.mem_of_getElem? hx)
                  have hxm := List.mem_of_getElem? hx
                  obtain ⟨y, rfl⟩ := Int.eq_ofNat_of_zero_le hxb.1
                  have hyn : y < f := by omega
                  obtain ⟨gA, rfl⟩ := own_shape (st.own (i := 2) rfl) (show 0 < j by omega)
                  have c1' := own_cell (st.own (i := 2) rfl) (show (ints ord)[t]? = some (.int .i64 (y : Int)) by simp [hx])
                  obtain ⟨A4, c4, hv4, ow4⟩ := st.rowAt (i := 1) rfl HMV.out
                  have hcm := own_cell (st.rows (i := 1) rfl) hv4
                  rw [hml] at hcm ow4
                  obtain ⟨g4, rfl⟩ := own_shape ow4 (by omega)
                  have hgz := List.getElem?_eq_getElem (show y < mv.length by rw [hml]; exact hyn)
                  obtain ⟨z, hz⟩ := sys_at HOK.out.sys HMV.out hgz
                  rw [hz.1] at hgz
                  have hcz := own_cell ow4 (show (ints mv)[y]? = some (.int .i64 (z : Int)) by simp [hgz])
                  have hzm : (z : Int) ∈ ord := by
                    have := HCL.out mv (List.mem_of_getElem? HMV.out) (y : Int) hxm
                    rwa [fz_at hgz] at this
                  have hzn : z < f := by have := HPA.out.1 _ hzm; omega
                  have hnum := numTo_all (n := f) hzn hzm
                  rw [HL.out] at hnum
                  have c3' := own_cell (st.own (i := 3) rfl) (show (ints (numTo ord f j))[z]? = some (.int .i64 (idxL ord (z : Int))) by simp [hnum])
                  have hsu := secRow_succ (m := mv) hx
                  rw [fz_at hgz] at hsu
                  have HSU := Lib.hid hsu
                  have Sd := Lib.hid (st.go (below_drewN (Below.refl _ _) 1))
                  have hlo2 := Sd.out.lo
                  have zI : (z : Int) < (f : Int) := by omega
                  have yI : (y : Int) < (f : Int) := by omega
                  clear st hx hxb hxm hgz hnum hsu hzm hz hv4 ow4
                  go_wp2
                  go_region_law ((refine step_push_h rfl (.tmp 73) (.tmp 87) 36 2 (by rfl) Try.underlying36 (.int .i64 0) 8 Try.info2 rfl wr.heap.size (by rfl) wb.heap.size (.slice A6 t c6) t _ (by rfl) (Sd.out.own (i := 6) rfl) _ (by rfl) (by rfl) (by omega) (by omega) hlo2 ?_; intro A7 c7 w7 own7 gr7 hat7))
                  all_goals
                    have own8 : w7.ownsRow wb.heap.size 2 1 (.slice A7 (t + 1) c7) (t + 1) (ints ((secRow ord mv).take (t + 1))) := by
                      rw [HSU.out]
                      simpa [ints] using own7
                    have S7 := Lib.hid (Sd.out.push (i := 6) rfl own8 gr7 hat7)
                    clear own7 own8 gr7 hat7
                    go_wp2
                    go_roundw
                    case rel => exact ⟨t + 1, _, _, by omega, rfl, by go_num, S7.out⟩
                    case measure => simp [intOf]; omega
                · obtain rfl : t = j := by omega
                  rw [List.take_of_length_le (l := secRow ord mv) (by rw [HSL2.out]; exact Nat.le_refl _)] at st
                  have p1 := (st.blk (i := 4) rfl).cell (i := 0) rfl
                  have hlo2 := st.lo
                  have S7 := Lib.hid st
                  clear st
                  go_wp2_with (at_builtin; refine wpList_push_at _ rfl _ _ 22 36 rfl Try.underlying22 (.slice none 0 0) 24 Try.infoS rfl wb.heap.size _ _ _ rfl (S7.out.rows (i := 5) rfl) _ rfl rfl (by omega) (by omega) hlo2 ?_)
                  intro A8 c8 w8 own8 gr8 hat8
                  have st8 := (S7.out.rowPush (i := 5) (j := 6) rfl rfl HSL2.out (by decide) (by decide) own8 gr8 hat8).take 6
                  have q1 := (st8.blk (i := 4) rfl).cell (i := 0) rfl
                  have f1 := (st8.blk (i := 4) rfl).free 0
                  have st9 := st8.blkSet (i := 4) rfl 0 (.slice A8 (r + 1) c8)
                  have S9 := Lib.hid (show St wb (w8.setCell ⟨wq.heap.size, 0, none⟩ (.slice A8 (r + 1) c8)) (mapB w.heap.size wz.heap.size vs t c3 f w2.heap.size A3 xss ord (numTo ord f t) ++ [.blk wq.heap.size #[.slice A8 (r + 1) c8] 27, .rows 2 36 A8 (r + 1) c8 (vals ++ [.slice A6 t c6]) ((secL xss f 0).take (r + 1))]) from by
                    rw [HSL4.out, HORD.out]
                    exact st9)
                  clear own8 gr8 hat8 st8 st9 p1
                  go_wp2
                  go_roundw
                  case rel => exact ⟨r + 1, _, _, _, by omega, by go_num, S9.out⟩
                  case measure => simp [intOf]; omega
            · obtain rfl : r = 3 := by omega
              rw [List.take_of_length_le (l := secL xss f 0) (by rw [HSL.out]; exact Nat.le_refl _)] at st
              have z0 := (st.blk (i := 0) rfl).cell (i := 0) rfl
              have f0 := (st.blk (i := 0) rfl).free 0
              have o0 := (st.blk (i := 4) rfl).cell (i := 0) rfl
              have S5 := Lib.hid st
              have HSO := Lib.hid (show OkI j (secL xss f 0) from sec_ok HOK.out (f := 0) (by omega) (by rw [HORD.out, HL.out]))
              clear st
              go_wp2
              have st4 := S5.out.blkSet (i := 0) rfl 0 (.slice AR 3 cR)
              have y0 := (st4.blk (i := 0) rfl).cell (i := 0) rfl
              refine bodyPost_ret (v := .agg #[.slice AR 3 cR]) (by simp [results, Try.results115, go_sem, y0]) rfl ⟨wb, AR, 3, cR, j, vals, secL xss f 0, rfl, HSL.out, HSO.out, hol, D1.out, ?_⟩
              exact st4.pick (fun i => i + 5) (fun i hi => by simp at hi ⊢; omega) (fun i hi => by match i, hi with | 0, _ => rfl) (fun i j _ _ h => by omega)
end
end Go.Proofs.Ytmgoaabeopnopaa
