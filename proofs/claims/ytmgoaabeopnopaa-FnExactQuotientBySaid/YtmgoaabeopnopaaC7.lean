/- Quotients: impl.areAutomorphisms, impl.quotient, spec.l07Automorphism, spec.l07Quotient. -/
import Derived.Test.YtmgoaabeopnopaaQf
import Derived.Test.YtmgoaabeopnopaaCx
import Derived.Test.YtmgoaabeopnopaaCy
import Derived.Test.YtmgoaabeopnopaaL17
import Derived.Test.YtmgoaabeopnopaaIdn
import Derived.StillTailTactics
namespace Go.Proofs.Ytmgoaabeopnopaa
open Go.RowKit

/-- The first k of a list are automorphisms. -/
def AuQ (xss PL : List (List Int)) (k : Nat) : Prop := ∀ j : Nat, j < k → ∀ p, PL[j]? = some p → cvB7 xss xss p = true
theorem auQ_step {xss PL : List (List Int)} {k : Nat} {p : List Int} (h : AuQ xss PL k) (hp : PL[k]? = some p) (hc : cvB7 xss xss p = true) : AuQ xss PL (k + 1) := fun j hj p' hp' => by
  rcases Nat.lt_succ_iff_lt_or_eq.1 hj with h1 | rfl
  · exact h j h1 p' hp'
  · rw [hp] at hp'; injection hp' with hp'; subst hp'; exact hc
theorem auQ_done {xss PL : List (List Int)} (h : AuQ xss PL PL.length) (hl : PL.length ≤ 16) : auB7 xss PL = true := by
  unfold auB7
  rw [decide_eq_true hl, Bool.true_and, List.all_eq_true]
  intro p hp
  obtain ⟨i, hi, he⟩ := List.mem_iff_getElem.1 hp
  exact h i hi p (by rw [List.getElem?_eq_getElem hi, he])
theorem auQ_no {xss PL : List (List Int)} {k : Nat} {p : List Int} (hp : PL[k]? = some p) (hc : cvB7 xss xss p = false) : auB7 xss PL = false := by
  unfold auB7
  rw [Bool.and_eq_false_iff]
  refine .inr ?_
  rw [List.all_eq_false]
  exact ⟨p, List.mem_of_getElem? hp, by rw [hc]; decide⟩
theorem auQ_long {xss PL : List (List Int)} (h : 16 < PL.length) : auB7 xss PL = false := by
  unfold auB7
  rw [decide_eq_false (by omega), Bool.false_and]

set_option maxHeartbeats 3200000 in
set_option maxRecDepth 8000 in
theorem iAre_any {A B : Option Addr} {N c M d : Nat} {xss PL : List (List Int)} {r : Bool} (w : World) (hm : okMan xss = true) (hx : xss.length = N) (ha : RdSS w A xss) (hy : PL.length = M) (hb : RdSS w B PL) (hM : M ≤ 1048576) (hr : ∀ xs ∈ PL, (xs.length : Int) ≤ 1048576) (hres : auB7 xss PL = r) :
    Calls Try.prog 89 #[.agg #[.slice A N c], .slice B M d] w fun e w' => e = .returned (.bool r) ∧ Below w.heap.size w w' := by
  have HM := Lib.hid hm
  have HX := Lib.hid hx
  have HA := Lib.hid ha
  have HY := Lib.hid hy
  have HB := Lib.hid hb
  have HR := Lib.hid hres
  have HRR := Lib.hid hr
  have st0 := (St.start w).addBlk #[.slice A N c] 27
  have S0 := Lib.hid st0
  clear st0 hm hx ha hb hres hr
  by_cases h16 : 16 < M
  · have hF := auQ_long (xss := xss) (PL := PL) (by rw [hy]; exact h16)
    have HF := Lib.hid hF
    have hI : (16 : Int) < (M : Int) := by omega
    clear hF hy
    go_enter Try.func89, Try.ntmps89
    go_wp2
    go_ret
    exact ⟨ret_bool (by rw [← HR.out, HF.out]), S0.out.below⟩
  · have hI : ¬ (16 : Int) < (M : Int) := by omega
    clear hy
    go_enter Try.func89, Try.ntmps89
    go_wp2
    go_loopw [12] (fun v wr => ∃ j : Nat, j ≤ M ∧ v = .int .i64 j ∧ St w wr [.blk w.heap.size #[.slice A N c] 27] ∧ AuQ xss PL j) (fun v _ => M - (intOf v).toNat)
    case atStart => exact ⟨0, Nat.zero_le _, rfl, S0.out, fun j hj => by omega⟩
    case round =>
      obtain ⟨j, hj, rfl, st, hq⟩ := hrel
      have S := Lib.hid st
      have Q := Lib.hid hq
      have x1 := (st.blk (i := 0) rfl).cell (i := 0) rfl
      clear st hq S0
      by_cases hlt : j < M
      · obtain ⟨b3, o3, A4, c4, p, rfl, hp, hc, hrd, hms⟩ := (HB.out.keep S.out.below).row (k := j) (by rw [HY.out]; exact hlt)
        obtain ⟨lp, hlp⟩ : ∃ l, p.length = l := ⟨_, rfl⟩
        have hlb := HRR.out p (List.mem_of_getElem? hp)
        rw [hlp] at hc hms hlb
        have HP := Lib.hid hp
        have HRD := Lib.hid hrd
        have HLP := Lib.hid hlp
        obtain ⟨cb, hcb⟩ : ∃ r, cvB7 xss xss p = r := ⟨_, rfl⟩
        have HCB := Lib.hid hcb
        clear hp hrd hlp hcb hms
        go_wp2_with fail
        refine (iCovOk_any _ HM.out HM.out HX.out HX.out HLP.out (HA.out.keep S.out.below) (HA.out.keep S.out.below) HRD.out (by omega) HCB.out).mono ?_
        rintro e w3 ⟨rfl, bel⟩
        have S3 := Lib.hid (S.out.go bel)
        clear bel x1 hc
        cases cb with
        | false =>
          have HF := Lib.hid (auQ_no HP.out HCB.out)
          go_wp2
          go_ret
          exact ⟨ret_bool (by rw [← HR.out, HF.out]), S3.out.below⟩
        | true =>
          have Q2 := Lib.hid (auQ_step Q.out HP.out HCB.out)
          go_wp2
          go_roundw
          case rel => exact ⟨j + 1, by omega, by go_num, S3.out, Q2.out⟩
          case measure => simp [intOf]; omega
      · obtain rfl : j = M := by omega
        have hq := Q.out
        rw [← HY.out] at hq
        have HF := Lib.hid (auQ_done hq (by rw [HY.out]; omega))
        clear hq
        go_wp2
        go_ret
        exact ⟨ret_bool (by rw [← HR.out, HF.out]), S.out.below⟩

theorem sAu7_any {AL A : Option Addr} {nL cL N c : Nat} {xss : List (List Int)} {L : List Int} {r : Bool} (w : World) (hm : okMan xss = true) (hx : xss.length = N) (hl : L.length = nL) (ha : RdSS w A xss) (hL : Rd w AL (ints L)) (hLn : nL ≤ 1048576) (hr : cvB7 xss xss L = r) :
    Calls Try.prog 84 #[.agg #[.slice A N c], .slice AL nL cL] w fun e w' => e = .returned (.bool r) ∧ Below w.heap.size w w' := by
  have HM := Lib.hid hm
  have HX := Lib.hid hx
  have HLL := Lib.hid hl
  have HA := Lib.hid ha
  have HL := Lib.hid hL
  have HR := Lib.hid hr
  have st0 := (St.start w).addBlk #[.slice A N c] 27
  have S0 := Lib.hid st0
  have x0 := (st0.blk (i := 0) rfl).cell (i := 0) rfl
  clear st0 hm hx hl ha hL hr
  go_enter Try.func84, Try.ntmps84
  go_wp2_with fail
  refine (sCovering_any _ HM.out HM.out HX.out HX.out HLL.out (HA.out.keep S0.out.below) (HA.out.keep S0.out.below) (HL.out.keep S0.out.below) hLn HR.out).mono ?_
  rintro e w3 ⟨rfl, bel⟩
  have S3 := Lib.hid (S0.out.go bel)
  clear bel x0
  go_wp2
  go_ret
  exact ⟨rfl, S3.out.below⟩

abbrev qtPs (h0 : Nat) (m : Value) (g n ca : Nat) (OL : List Int) (gI N : Nat) (vals : List Value) (L : List (List Int)) : List Pc :=
  [.blk h0 #[m] 27, .blk (h0 + 1) #[.slice none 0 0] 27, .own 2 (some ⟨g, 0, none⟩) n ca (ints OL), .rows 2 36 (some ⟨gI, 0, none⟩) N N vals L]

set_option maxHeartbeats 6400000 in
set_option maxRecDepth 100000 in
theorem iQuo_any {A B : Option Addr} {c N M d : Nat} {xss PL : List (List Int)} (w : World) (hm : okMan xss = true) (hx : xss.length = N) (ha : RdSS w A xss) (hy : PL.length = M) (hb : RdSS w B PL) (hau : auB7 xss PL = true) :
    Calls Try.prog 90 #[.agg #[.slice A N c], .slice B M d] w fun e w' => ∃ A' c', e = .returned (.agg #[.slice A' N c']) ∧ OwnSS w' w.heap.size w'.heap.size 36 A' N c' (quL7 xss PL) ∧ Below w.heap.size w w' := by
  have hman := okMan_iff.1 hm
  have hsys := hman.sys
  have hn4 := hman.f4
  have hn2 := hman.f2
  have hN5 := hman.r5
  have hpos := hman.pos hx
  rw [hx] at hN5
  have hps := auB7_sys hman hau
  have hcl := (orbsTo_facts hps (flN xss) (Nat.le_refl _)).2.2.1
  have hok := fun (g : List Int) (hg : g ∈ xss) => quOk7 hman hau hg
  have hsn : (quL7 xss PL).length = N := by rw [quL7_len, hx]
  have hqq : ∀ (k : Nat) (g : List Int), xss[k]? = some g → (quL7 xss PL)[k]? = some (quRow (labL PL (flN xss)) (orbsTo PL (flN xss) (flN xss)).length g) := fun k g hg => by rw [quL7, List.getElem?_map, hg]; rfl
  obtain ⟨QL, hQL⟩ : ∃ Q, quL7 xss PL = Q := ⟨_, rfl⟩
  rw [hQL] at hsn hqq ⊢
  obtain ⟨b0, o0, A0, c0, rfl, hc0⟩ := man_row0 hman ha
  obtain ⟨n, hn⟩ : ∃ n, flN xss = n := ⟨_, rfl⟩
  rw [hn] at hsys hn2 hn4 hcl hok hqq hps hc0
  obtain ⟨q, hq⟩ : ∃ q, (orbsTo PL n n).length = q := ⟨_, rfl⟩
  obtain ⟨OL, hOL⟩ : ∃ OL, labL PL n = OL := ⟨_, rfl⟩
  have hlen : OL.length = n := by rw [← hOL]; exact labL_length _ _
  rw [hq] at hcl hok hqq
  rw [hOL] at hok hqq
  have HX := Lib.hid hx
  have HA := Lib.hid ha
  have HB := Lib.hid hb
  have HY := Lib.hid hy
  have HS := Lib.hid hsys
  have HPS := Lib.hid hps
  have HC0 := Lib.hid hc0
  have HLEN := Lib.hid hlen
  have HSN := Lib.hid hsn
  have HOK := Lib.hid hok
  have HQQ := Lib.hid hqq
  have HQ := Lib.hid hq
  have HOL := Lib.hid hOL
  have st0 := ((St.start w).addBlk #[.slice (some ⟨b0, o0, none⟩) N c] 27).addBlk #[.slice none 0 0] 27
  simp at st0
  have S0 := Lib.hid st0
  have x0 := (st0.blk (i := 0) rfl).cell (i := 0) rfl
  have hmk := run_make_row' (P := Try.prog) 22 36 (.slice none 0 0) 24 Try.underlying22 Try.infoS rfl .i64 .i64 N (by omega) (by omega)
  have hmk2 := run_make_row' (P := Try.prog) 36 2 (.int .i64 0) 8 Try.underlying36 Try.info2 rfl .i64 .i64 q (by omega) (by omega)
  clear st0 hx ha hb hy hm hman hsys hps hc0 hlen hsn hok hqq hq hOL hn hQL hau
  go_enter Try.func90, Try.ntmps90
  go_wp2_with fail
  refine (ilab2_any (m := q) _ (cell_be HC0.out S0.out.below) hpos HY.out (HB.out.keep S0.out.below) HPS.out (by omega) HQ.out).mono ?_
  rintro e w1 ⟨A6, ca, rfl, own, bel⟩
  rw [HOL.out] at own
  obtain ⟨g, rfl⟩ := own_shape own (by omega)
  have S1 := Lib.hid (S0.out.addOwn bel own (Nat.le_refl _))
  have x1 := (S1.out.blk (i := 0) rfl).cell (i := 0) rfl
  clear own bel x0
  go_wp2_with fail
  refine (rank_bel _).mono ?_
  rintro e w3 ⟨rfl, bel⟩
  have st3 := S1.out.go bel
  obtain ⟨vals0, st4⟩ := st3.addRows ((Below.refl _ _).alloc (Nat.le_refl _) _) (ownSS_make w3 N 36 (by unfold maxLen; omega)) (Nat.le_refl _) (by simp)
  have x4 := (st4.blk (i := 0) rfl).cell (i := 0) rfl
  have S4 := Lib.hid (show St w _ (qtPs w.heap.size (.slice (some ⟨b0, o0, none⟩) N c) g n ca OL w3.heap.size N vals0 (rwTo QL N 0 [])) from by rw [rwTo_zero]; exact st4)
  clear bel x1 st3 st4 S0 S1
  go_wp2
  clear hmk x4
  obtain ⟨gI, hgI⟩ : ∃ g, w3.heap.size = g := ⟨_, rfl⟩
  rw [hgI] at S4 ⊢
  clear hgI
  go_loopw [24] (fun v wr => ∃ (k : Nat) (vals : List Value), k ≤ N ∧ v = .int .i64 k ∧ St w wr (qtPs w.heap.size (.slice (some ⟨b0, o0, none⟩) N c) g n ca OL gI N vals (rwTo QL N k []))) (fun v _ => N - (intOf v).toNat)
  case atStart => exact ⟨0, vals0, Nat.zero_le _, rfl, S4.out⟩
  case round =>
    obtain ⟨k, vals, hk, rfl, st⟩ := hrel
    have S := Lib.hid st
    clear S4 st
    by_cases hkN : k < N
    · obtain ⟨b2, o2, A2, c2, gg, he2, hgg, hcw0, hrd, hms⟩ := HA.out.row (k := k) (by rw [HX.out]; exact hkN)
      obtain ⟨rfl, rfl⟩ : b0 = b2 ∧ o0 = o2 := by simpa using he2
      have hcw := cell_be hcw0 S.out.below
      clear hcw0 he2
      have hlg := sys_len HS.out hgg
      obtain ⟨l, hl⟩ : ∃ l, gg.length = l := ⟨_, rfl⟩
      rw [hl] at hcw hms hlg
      obtain rfl : l = n := by omega
      have HGG := Lib.hid hgg
      have HGO := Lib.hid (HOK.out gg (List.mem_of_getElem? hgg))
      have HL2 := Lib.hid hl
      have st5 := S.out.addMake (.int .i64 0) q 2 (by unfold maxLen; omega)
      obtain ⟨u, hu⟩ : ∃ u, vals[k]? = some u := ⟨_, List.getElem?_eq_getElem (by have := (st5.rows (i := 3) rfl).1; omega)⟩
      have c3 := own_cell (st5.rows (i := 3) rfl) hu
      have f3 := (st5.rows (i := 3) rfl).frozenAt k
      have st5b : St w (wr.alloc (.cells (madeCells #[.int .i64 0] q) 2)) (qtPs w.heap.size (.slice (some ⟨b0, o0, none⟩) N c) g l ca OL gI N vals (rwTo QL N k []) ++ [.own 2 (some ⟨wr.heap.size, 0, none⟩) q q (ints (List.replicate q 0))]) := by simpa [ints, qtPs] using st5
      have st6 := (st5b.rowPut (i := 3) (j := 4) (ys := List.replicate q 0) rfl rfl (by simp) (by decide) (by decide) hkN).take 4
      have hvl : vals.length = N := by have := (S.out.rows (i := 3) rfl).1; omega
      have HV := Lib.hid (show (vals.set k (.slice (some ⟨wr.heap.size, 0, none⟩) q q))[k]? = some (.slice (some ⟨wr.heap.size, 0, none⟩) q q) from List.getElem?_set_self (by rw [hvl]; exact hkN))
      obtain ⟨valsK, hvK⟩ : ∃ v, vals.set k (.slice (some ⟨wr.heap.size, 0, none⟩) q q) = v := ⟨_, rfl⟩
      obtain ⟨g5, hg5⟩ : ∃ g, wr.heap.size = g := ⟨_, rfl⟩
      have S6 := Lib.hid (show St w ((wr.alloc (.cells (madeCells #[.int .i64 0] q) 2)).setCell ⟨gI, k, none⟩ (.slice (some ⟨wr.heap.size, 0, none⟩) q q)) (qtPs w.heap.size (.slice (some ⟨b0, o0, none⟩) N c) g l ca OL gI N valsK (rwTo QL N k (List.replicate q 0))) from by
        rw [← hvK, ← rwTo_set hkN (x := [])]
        exact st6)
      rw [hvK, hg5] at HV
      have kI : (k : Int) < (N : Int) := by omega
      have HRD := Lib.hid hrd
      clear st5 st5b st6 hu hvK hvl hgg hrd hl
      go_wp2
      clear c3 f3 hmk2
      rw [hg5] at S6
      go_loopw [36] (fun v wi => ∃ (f : Nat) (D : List Int), f ≤ l ∧ v = .int .i64 f ∧ St w wi (qtPs w.heap.size (.slice (some ⟨b0, o0, none⟩) N c) g l ca OL gI N valsK (rwTo QL N k D)) ∧ QuR OL q gg f D) (fun v _ => l - (intOf v).toNat)
      case atStart => exact ⟨0, _, Nat.zero_le _, rfl, S6.out, quR_start⟩
      case round =>
        obtain ⟨f, D, hf, rfl, st2, hst⟩ := hrel
        have S2 := Lib.hid st2
        have ST := Lib.hid hst
        have hDl : D.length = q := hst.1
        clear st2 hst S6 S
        by_cases hfl : f < l
        · obtain ⟨j, hj, hjo⟩ := HGO.out.lt f hfl
          have hrd2 := HRD.out.keep S2.out.below
          obtain ⟨b4, o4, y, rfl, hgy, hcy⟩ := hrd2.int (k := f) (by rw [HL2.out]; exact hfl)
          obtain ⟨r, rfl, hr0⟩ := sys_at HS.out HGG.out hgy
          have hrl : r < l := by omega
          obtain ⟨v, hv, hvo⟩ := HGO.out.lt r hrl
          have hco := own_cell (S2.out.own (i := 2) rfl) (show (ints OL)[f]? = some (.int .i64 j) by rw [ints, List.getElem?_map, hjo]; rfl)
          have hcr := own_cell (S2.out.own (i := 2) rfl) (show (ints OL)[r]? = some (.int .i64 v) by rw [ints, List.getElem?_map, hvo]; rfl)
          have hrow := rwTo_at (L := QL) (x := D) hkN
          obtain ⟨A8, c8, hv8, hown8⟩ := S2.out.rowAt (i := 3) (k := k) rfl hrow
          rw [HV.out, hDl] at hv8
          simp only [Option.some.injEq, Value.slice.injEq, true_and] at hv8
          obtain ⟨rfl, rfl⟩ := hv8
          rw [hDl] at hown8
          have hcI := own_cell (S2.out.rows (i := 3) rfl) HV.out
          obtain ⟨u8, hu8⟩ := ints_at hDl hj
          have hcj := own_cell hown8 hu8
          have hfj := hown8.frozenAt j
          have ST2 := Lib.hid (quR_step HGO.out hfl ST.out hjo)
          have hfz : fz OL (fz gg (f : Int)) = (v : Int) := by rw [show fz gg (f : Int) = (r : Int) from fz_at hgy, fz_at hvo]
          have HFZ := Lib.hid hfz
          have HDL := Lib.hid hDl
          have HROW := Lib.hid hrow
          have jI : (j : Int) < (q : Int) := by omega
          clear hrd2 hgy hvo hjo hrow hu8 hfz hDl hown8
          go_wp2
          go_still_tail 13, (by kernel_rfl)
          have S4 := Lib.hid (S2.out.go (below_drewN (Below.refl _ _) 1))
          obtain ⟨A9, c9, hv9, hown9⟩ := S4.out.rowAt (i := 3) (k := k) rfl HROW.out
          rw [HV.out, HDL.out] at hv9
          simp only [Option.some.injEq, Value.slice.injEq, true_and] at hv9
          obtain ⟨rfl, rfl⟩ := hv9
          rw [HDL.out] at hown9
          have hst9 := hown9.stored j (.int .i64 (v : Int))
          have h1 := hst9.1
          rw [ints_set] at h1
          have h5 := S4.out.rowWrite (i := 3) (k := k) (ys := D.set j (v : Int)) rfl (by decide) HROW.out (by rw [HDL.out]; exact HV.out) (Below.refl _ _) (by simp) (by rw [HDL.out]; exact h1) (by rw [HDL.out]; exact hst9.2)
          have S5 := Lib.hid (show St w _ (qtPs w.heap.size (.slice (some ⟨b0, o0, none⟩) N c) g l ca OL gI N valsK (rwTo QL N k (D.set j (v : Int)))) from by
            rw [← rwTo_set hkN (x := D)]
            exact h5)
          clear hst9 h1 h5 hown9
          go_wp2
          go_roundw
          case rel => exact ⟨f + 1, D.set j (v : Int), by omega, by go_num, S5.out, by rw [← HFZ.out]; exact ST2.out⟩
          case measure => simp [intOf]; omega
        · obtain rfl : f = l := by omega
          obtain rfl := quR_done HGO.out ST.out
          have S3 := Lib.hid (show St w _ (qtPs w.heap.size (.slice (some ⟨b0, o0, none⟩) N c) g f ca OL gI N valsK (rwTo QL N (k + 1) [])) from by
            rw [← rwTo_next (HQQ.out k gg HGG.out)]
            exact S2.out)
          go_wp2
          go_roundw
          case rel => exact ⟨k + 1, valsK, by omega, by go_num, S3.out⟩
          case measure => simp [intOf]; omega
    · obtain rfl : k = N := by omega
      have h := S.out
      rw [rwTo_all HSN.out] at h
      have z0 := (h.blk (i := 1) rfl).cell (i := 0) rfl
      have f0 := (h.blk (i := 1) rfl).free 0
      have S7 := Lib.hid h
      clear h S
      go_wp2
      have st4 := S7.out.blkSet (i := 1) rfl 0 (.slice (some ⟨gI, 0, none⟩) k k)
      have y0 := (st4.blk (i := 1) rfl).cell (i := 0) rfl
      refine bodyPost_ret (v := .agg #[.slice (some ⟨gI, 0, none⟩) k k]) (by simp [results, Try.results90, go_sem, y0]) rfl ⟨some ⟨gI, 0, none⟩, k, rfl, ?_, st4.below⟩
      exact st4.sep.ownSS (i := 3) rfl

end Go.Proofs.Ytmgoaabeopnopaa
