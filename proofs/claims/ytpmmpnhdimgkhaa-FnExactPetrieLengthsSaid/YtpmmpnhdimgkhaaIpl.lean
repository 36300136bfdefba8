/- impl.PetrieLengths. -/
import Derived.Test.YtpmmpnhdimgkhaaIdb
import Derived.Test.YtpmmpnhdimgkhaaIwd
import Derived.Test.YtpmmpnhdimgkhaaPel
namespace Go.Proofs.Ytpmmpnhdimgkhaa
open Go.RowKit

def plT (xs : List Int) (p : Int) : Int := ((1 + retTo xs p (xs.length - 1) (fz xs p) : Nat) : Int)
theorem perL_at {xs : List Int} {p : Nat} (hp : p < xs.length) : (perL xs)[p]? = some (plT xs (p : Int)) := by simp [perL, plT, hp]
def PlOk (xs D vis : List Int) : Prop := ∀ p : Nat, (p : Int) ∈ vis → D[p]? = some (plT xs (p : Int))
theorem plOk_nil (xs D : List Int) : PlOk xs D [] := fun p h => by simp at h
theorem plOk_step {xs D vis : List Int} {p : Nat} (h : PlOk xs D vis) (hp : p < D.length) : PlOk xs (D.set p (plT xs (p : Int))) (vis ++ [(p : Int)]) := by
  intro q hq
  by_cases e : p = q
  · subst e; rw [List.getElem?_set_self hp]
  · rw [List.getElem?_set_ne e]
    rcases List.mem_append.1 hq with h1 | h1
    · exact h q h1
    · simp at h1; omega
theorem plOk_all {xs D : List Int} {n : Nat} (hxn : xs.length = n) (hok : okP xs = true) (hD : D.length = n) (h : PlOk xs D (cycL xs).flatten) : D = perL xs := by
  apply List.ext_getElem?
  intro p
  by_cases hp : p < n
  · have hc := (cyc_all hxn hok n (Nat.le_refl _)).2.2 p hp
    have e : cycTo xs n n = cycL xs := by unfold cycL; rw [hxn]
    rw [e] at hc
    rw [h p hc, perL_at (by omega)]
  · rw [List.getElem?_eq_none (by omega), List.getElem?_eq_none (by rw [perL_len]; omega)]
theorem mod_ne {L i k : Nat} (hi : i < L) (h1 : 1 ≤ k) (hk : k < L) : (i + k) % L ≠ i := by
  by_cases h : i + k < L
  · rw [Nat.mod_eq_of_lt h]; omega
  · rw [Nat.mod_eq_sub_mod (by omega), Nat.mod_eq_of_lt (by omega)]; omega
/-- The points of a cycle come back when the cycle is passed. -/
theorem cyc_ret {xs c : List Int} {n i : Nat} {x : Int} (hxn : xs.length = n) (hok : okP xs = true) (hr : ∀ x ∈ c, 0 ≤ x ∧ x < (n : Int)) (hnd : c.Nodup) (h : CycOk xs c) (hx : c[i]? = some x) : plT xs x = (c.length : Int) := by
  have hil := (List.getElem?_eq_some_iff.1 hx).1
  have hxr := hr x (List.mem_of_getElem? hx)
  have key : ∀ k : Nat, 1 ≤ k → k ≤ c.length → ∀ y, c[(i + k) % c.length]? = some y → Way xs n x k y := by
    intro k
    induction k with
    | zero => intro h0; omega
    | succ k ih =>
      intro _ hk y hy
      by_cases hk0 : k = 0
      · subst hk0
        rw [h i x hx] at hy
        injection hy with hy
        subst hy
        exact way_start hxn hok hxr.1 hxr.2
      · have hml : (i + k) % c.length < c.length := Nat.mod_lt _ (by omega)
        obtain ⟨z, hz⟩ : ∃ z, c[(i + k) % c.length]? = some z := ⟨_, List.getElem?_eq_getElem hml⟩
        have hw := ih (by omega) (by omega) z hz
        have hne : z ≠ x := by
          intro e
          subst e
          have h1 := List.getElem?_eq_some_iff.1 hz
          have h2 := List.getElem?_eq_some_iff.1 hx
          have := (List.getElem_inj hnd).1 (h1.2.trans h2.2.symm)
          exact mod_ne hil (by omega) (by omega) this
        have h3 := h _ z hz
        rw [Nat.mod_add_mod] at h3
        rw [show i + (k + 1) = i + k + 1 by omega, h3] at hy
        injection hy with hy
        subst hy
        exact way_step hxn hok hw hne
  have hw := key c.length (by omega) (Nat.le_refl _) x (by rw [Nat.add_mod_right, Nat.mod_eq_of_lt hil]; exact hx)
  have := way_end hw
  unfold plT
  rw [hxn, ← this]
theorem cyc_fact2 {xs c : List Int} {n k : Nat} (hxn : xs.length = n) (hok : okP xs = true) (h : (cycL xs)[k]? = some c) : CycOk xs c ∧ (∀ x ∈ c, 0 ≤ x ∧ x < (n : Int)) ∧ c.Nodup ∧ c.length ≤ n := by
  have e : cycTo xs n n = cycL xs := by unfold cycL; rw [hxn]
  have hm : c ∈ cycTo xs n n := by rw [e]; exact List.mem_of_getElem? h
  have hp := cycTo_passed hxn hok n (Nat.le_refl _)
  have hnd : c.Nodup := (List.sublist_flatten_of_mem hm).nodup hp.2
  have hr : ∀ x ∈ c, 0 ≤ x ∧ x < (n : Int) := fun x hx => hp.1 x (List.mem_flatten.2 ⟨c, hm, hx⟩)
  exact ⟨(cyc_all hxn hok n (Nat.le_refl _)).1 c hm, hr, hnd, passed_len ⟨hr, hnd⟩⟩

abbrev iplPs (H g n : Nat) (m : Value) (D : List Int) (A : Option Addr) (mc c : Nat) (vals : List Value) (L : List (List Int)) : List Pc :=
  [.blk H #[m] 42, .own 2 (some ⟨g, 0, none⟩) n n (ints D), .rows 2 72 A mc c vals L]

set_option maxHeartbeats 6400000 in
set_option maxRecDepth 100000 in
theorem iPetrieLengths_any {A : Option Addr} {c N : Nat} {xss : List (List Int)} (w : World) (hx : xss.length = N) (ha : RdSS w A xss) (hN : N ≤ 1048576) (hr : ∀ xs ∈ xss, (xs.length : Int) ≤ 1048576) :
    Calls Try.prog 73 #[.agg #[.slice A N c]] w (RetS w (plR xss) (plC xss)) := by
  have HX := Lib.hid hx
  have HA := Lib.hid ha
  have HR := Lib.hid hr
  have st0 := (St.start w).addBlk #[.slice A N c] 42
  have S0 := Lib.hid st0
  have hbc := (st0.blk (i := 0) rfl).cell (i := 0) rfl
  clear st0
  cases ho : okMan xss
  · have h1 : plR xss = [] := by simp [plR, ho]
    have h2 : plC xss = 1 := by simp [plC, ho]
    rw [h1, h2]
    have HO := Lib.hid ho
    clear hx ha hr ho h1 h2
    go_enter Try.func73, Try.ntmps73
    go_wp2_with fail
    refine (iMan_any _ HX.out (HA.out.keep S0.out.below) hN HR.out).mono ?_
    rintro e w1 ⟨rfl, bel⟩
    rw [HO.out]
    have S1 := Lib.hid (S0.out.go bel)
    clear bel hbc
    go_wp2
    go_ret2
    exact ⟨none, 0, rfl, World.ownsRow_nil _ _ _ _, S1.out.below⟩
  · have hman := okMan_iff.1 ho
    have hsys := hman.sys
    have hn2 := hman.f2
    have hn4 := hman.f4
    have hN5 := hman.r5
    have hpos := hman.pos hx
    rw [hx] at hN5
    obtain ⟨b, o, A0, c0, rfl, hc0⟩ := man_row0 hman ha
    obtain ⟨n, hn⟩ : ∃ n, flN xss = n := ⟨_, rfl⟩
    rw [hn] at hc0 hsys hn2 hn4
    obtain ⟨ps, hps⟩ : ∃ ps, wpL xss n (nums N) = ps := ⟨_, rfl⟩
    have hpl : ps.length = n := by rw [← hps]; exact wpL_len
    have hpk : okP ps = true := by rw [← hps]; exact wpL_ok hsys (nums_ok hx)
    have h1 : plR xss = perL ps := by rw [plR, if_pos ho, hn, hx, hps]
    have h2 : plC xss = 0 := by simp [plC, ho]
    have h3 : (perL ps).length = n := by rw [perL_len, hpl]
    rw [h1, h2]
    have HC0 := Lib.hid hc0
    have HS := Lib.hid hsys
    have HO := Lib.hid ho
    have HPS := Lib.hid hps
    have HPL := Lib.hid hpl
    have HPK := Lib.hid hpk
    have HPN := Lib.hid h3
    have HNW := Lib.hid (nums_ok (xss := xss) hx)
    have hmk := run_make_row' (P := Try.prog) 33 2 (.int .i64 0) 8 Try.underlying33 Try.info2 rfl .i64 .i64 n (by omega) (by omega)
    clear hx ha hr ho hman hn hc0 hsys h1 h2 h3 hps hpl hpk
    go_enter Try.func73, Try.ntmps73
    go_wp2_with fail
    refine (iMan_any _ HX.out (HA.out.keep S0.out.below) hN HR.out).mono ?_
    rintro e w1 ⟨rfl, bel⟩
    rw [HO.out]
    have S1 := Lib.hid (S0.out.go bel)
    clear bel hbc
    have hbc := (S1.out.blk (i := 0) rfl).cell (i := 0) rfl
    go_wp2_with fail
    refine (flags_bel _ hpos (cell_be HC0.out S1.out.below)).mono ?_
    rintro e w2 ⟨rfl, bel⟩
    have st2 := (S1.out.go bel).addMake (.int .i64 0) n 2 (by unfold maxLen; omega)
    clear hbc
    have hbc := (st2.blk (i := 0) rfl).cell (i := 0) rfl
    have S2 := Lib.hid st2
    have Sd := Lib.hid (st2.go (below_drewN (Below.refl _ _) 1))
    clear bel S1 st2
    go_wp2
    clear hmk
    go_region_law ((first
      | (go_simp; go_at_call 117
         refine (rank_bel _).mono ?_
         rintro e w4 ⟨rfl, bel4⟩
         have S4 := Lib.hid (Sd.out.go bel4)
         have hbc4 := (S4.out.blk (i := 0) rfl).cell (i := 0) rfl)
      | (go_simp; go_at_call 81
         refine (ident_any N _ (by omega)).mono ?_
         rintro e w5 ⟨rfl, st5⟩
         have S5 := Lib.hid (S4.out.join st5)
         have hbc5 := (S5.out.blk (i := 0) rfl).cell (i := 0) rfl
         clear st5)
      | (go_simp; go_at_call 127
         refine (idone_any (wd := nums N) _ HX.out (HA.out.keep S5.out.below) HS.out (cell_be HC0.out S5.out.below) hpos (nums_len N) (own_rd (S5.out.own (i := 2) rfl)) HNW.out (by omega)).mono ?_
         rintro e w6 ⟨A6, c6, rfl, own6, bel6⟩
         rw [HPS.out] at own6
         have S6 := Lib.hid (S5.out.addOwn bel6 own6 (Nat.le_refl _))
         clear own6 bel6)
      | (go_simp; go_at_call 128
         refine (icyc_any _ HPL.out (own_rd (S6.out.own (i := 3) rfl)) (by omega) HPK.out).mono ?_
         rintro e w7 ⟨A7, c7, m, rfl, own7, bel7⟩
         obtain ⟨vals, st7⟩ := S6.out.addRows bel7 own7 (Nat.le_refl _) (Nat.le_refl _)
         have hm := st7.sep.rows_len (i := 4) rfl
         have st8 : St w w7 (iplPs w.heap.size w2.heap.size n (.slice (some ⟨b, o, none⟩) N c) (List.replicate n 0) A7 m c7 vals (cycL ps)) := by simpa [ints, iplPs] using (st7.drop 2).drop 2
         have S8 := Lib.hid st8
         have HM := Lib.hid hm
         clear own7 bel7 st7 st8 hm)))
    all_goals
      have hmn : m ≤ n := by have := cycL_le ps; rw [HPL.out, HM.out] at this; exact this
      go_simp
      go_wp2
      go_loopw [22] (fun q wr => ∃ (j : Nat) (D : List Int), j ≤ m ∧ q = .int .i64 j ∧ St w wr (iplPs w.heap.size w2.heap.size n (.slice (some ⟨b, o, none⟩) N c) D A7 m c7 vals (cycL ps)) ∧ PlOk ps D ((cycL ps).take j).flatten) (fun q _ => m - (intOf q).toNat)
      case atStart => exact ⟨0, List.replicate n 0, Nat.zero_le _, rfl, S8.out, by simpa using plOk_nil _ _⟩
      case round =>
        obtain ⟨j, D, hj, rfl, st, hpw⟩ := hrel
        clear S8
        by_cases hlt : j < m
        · obtain ⟨cy, hcg⟩ : ∃ cy, (cycL ps)[j]? = some cy := ⟨_, List.getElem?_eq_getElem (by rw [HM.out]; exact hlt)⟩
          obtain ⟨A3, c3, hv, hown⟩ := st.rowAt (i := 2) (k := j) rfl hcg
          obtain ⟨hcy, hcr, hnd, hl2⟩ := cyc_fact2 HPL.out HPK.out hcg
          obtain ⟨l, hl⟩ : ∃ l, cy.length = l := ⟨_, rfl⟩
          rw [hl] at hv hown hl2
          obtain ⟨g7, rfl⟩ := own_shape (st.rows (i := 2) rfl) (show 0 < m by omega)
          have hc := own_cell (st.rows (i := 2) rfl) hv
          have HG := Lib.hid hcg
          have HCY := Lib.hid hcy
          have HCR := Lib.hid hcr
          have HND := Lib.hid hnd
          have HL := Lib.hid hl
          have HV := Lib.hid hv
          have ST := Lib.hid st
          have PW := Lib.hid hpw
          have jI : (j : Int) < (m : Int) := by omega
          clear hcg hcy hcr hnd hl st hpw hown hv
          go_wp2
          go_loopw [28] (fun q wi => ∃ (i : Nat) (D : List Int), i ≤ l ∧ q = .int .i64 i ∧ St w wi (iplPs w.heap.size w2.heap.size n (.slice (some ⟨b, o, none⟩) N c) D (some ⟨g7, 0, none⟩) m c7 vals (cycL ps)) ∧ PlOk ps D (((cycL ps).take j).flatten ++ cy.take i)) (fun q _ => l - (intOf q).toNat)
          case atStart => exact ⟨0, D, Nat.zero_le _, rfl, ST.out, by simpa using PW.out⟩
          case round =>
            obtain ⟨i, D2, hi, rfl, st2, hpw2⟩ := hrel
            clear hc
            by_cases hil : i < l
            · obtain ⟨A3', c3', hv', hown⟩ := st2.rowAt (i := 2) (k := j) rfl HG.out
              rw [HL.out, HV.out] at hv'
              simp only [Option.some.injEq, Value.slice.injEq, true_and] at hv'
              obtain ⟨rfl, rfl⟩ := hv'
              obtain ⟨b3, o3, x, rfl, hgx, hcx⟩ := (own_rd hown).int (k := i) (by rw [HL.out]; exact hil)
              have hxr := HCR.out x (List.mem_of_getElem? hgx)
              obtain ⟨p, rfl⟩ := Int.eq_ofNat_of_zero_le hxr.1
              have hT := cyc_ret HPL.out HPK.out HCR.out HND.out HCY.out hgx
              rw [HL.out] at hT
              have hD2 : D2.length = n := by have := (st2.own (i := 1) rfl).1; simp at this; omega
              have hpn : p < n := by omega
              obtain ⟨u, hu⟩ := ints_at hD2 hpn
              have hcell := own_cell (st2.own (i := 1) rfl) hu
              have hfrz := (st2.own (i := 1) rfl).frozenAt p
              have st3 := st2.store (i := 1) rfl p (.int .i64 (l : Int))
              have hpk := plOk_step hpw2 (show p < D2.length by omega)
              rw [hT, List.append_assoc, ← take_succ_of hgx] at hpk
              rw [ints_set] at st3
              have HPK2 := Lib.hid hpk
              have S3 := Lib.hid st3
              have pI : (p : Int) < (n : Int) := by omega
              have iI : (i : Int) < (l : Int) := by omega
              clear hT hu hgx hpk hD2 hxr st2 st3 hpw2 hown
              go_wp2
              go_roundw
              case rel => exact ⟨i + 1, D2.set p (l : Int), by omega, by go_num, S3.out, HPK2.out⟩
              case measure => simp [intOf]; omega
            · obtain rfl : i = l := by omega
              have e : cy.take i = cy := List.take_of_length_le (by rw [HL.out]; exact Nat.le_refl _)
              rw [e] at hpw2
              have HPK2 := Lib.hid (show PlOk ps D2 ((cycL ps).take (j + 1)).flatten by rw [List.take_add_one, HG.out]; simpa using hpw2)
              have S3 := Lib.hid st2
              clear hpw2 st2
              go_wp2
              go_roundw
              case rel => exact ⟨j + 1, D2, by omega, by go_num, S3.out, HPK2.out⟩
              case measure => simp [intOf]; omega
        · obtain rfl : j = m := by omega
          rw [List.take_of_length_le (by rw [HM.out]; exact Nat.le_refl _)] at hpw
          have hD : D.length = n := by have := (st.own (i := 1) rfl).1; simp at this; omega
          have HE := Lib.hid (plOk_all HPL.out HPK.out hD hpw)
          have S3 := Lib.hid st
          clear st hpw hD
          go_wp2
          go_ret2
          refine ⟨_, n, by rw [HPN.out]; rfl, ?_, S3.out.below⟩
          rw [HPN.out, ← HE.out]
          exact S3.out.own (i := 1) rfl
end Go.Proofs.Ytpmmpnhdimgkhaa
