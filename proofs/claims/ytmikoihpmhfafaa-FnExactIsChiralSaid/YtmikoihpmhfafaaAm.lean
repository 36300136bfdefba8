/- impl.symmetryType. -/
import Derived.Test.YtmikoihpmhfafaaAl
import Derived.Test.YtmikoihpmhfafaaIdn
import Derived.StillTailTactics
namespace Go.Proofs.Ytmikoihpmhfafaa
open Go.RowKit

abbrev syPs (h0 : Nat) (m : Value) (g n : Nat) (OL : List Int) (gI N : Nat) (vals : List Value) (L : List (List Int)) : List Pc :=
  [.blk h0 #[m] 26, .own 2 (some ⟨g, 0, none⟩) n n (ints OL), .rows 2 31 (some ⟨gI, 0, none⟩) N N vals L]

set_option maxHeartbeats 6400000 in
set_option maxRecDepth 100000 in
theorem isym_any {A : Option Addr} {c N : Nat} {xss : List (List Int)} (w : World) (hm : okMan xss = true) (hx : xss.length = N) (ha : RdSS w A xss) :
    Calls Try.prog 146 #[.agg #[.slice A N c]] w (RetSL w (stL xss)) := by
  have hman := okMan_iff.1 hm
  have hsys := hman.sys
  have hn4 := hman.f4
  have hn2 := hman.f2
  have hN5 := hman.r5
  rw [hx] at hN5
  have hcl := ocn_le hman
  have hlen := @oL_len xss
  have hsn : (stL xss).length = N := by rw [stL_len, hx]
  obtain ⟨q, hq⟩ : ∃ q, ocn xss = q := ⟨_, rfl⟩
  have hq2 : (orbsTo (autL xss) (flN xss) (flN xss)).length = q := hq
  have hat := fun (f : Nat) (hf : f < flN xss) => oL_at hman hf
  have hRL := fun (g : List Int) (D : List Int) (h : g ∈ xss) (h2 : StR xss g (flN xss) D) => stR_done hman h h2
  have hRS := fun (g : List Int) (f j : Nat) (D : List Int) (h : g ∈ xss) (hf : f < flN xss) (h2 : StR xss g f D) (h3 : (oL xss)[f]? = some (j : Int)) => stR_step hman h hf h2 h3
  have hR0 := fun (g : List Int) => @stR_start xss g
  obtain ⟨n, hn⟩ : ∃ n, flN xss = n := ⟨_, rfl⟩
  obtain ⟨OL, hOL⟩ : ∃ OL, oL xss = OL := ⟨_, rfl⟩
  have hOL2 : labL (autL xss) (flN xss) = OL := hOL
  rw [hq] at hcl hat hR0
  rw [hn] at hsys hn2 hn4 hcl hlen hat hRL hRS
  rw [hOL] at hlen hat hRS
  have HM := Lib.hid hm
  have HX := Lib.hid hx
  have HA := Lib.hid ha
  have HS := Lib.hid hsys
  have HLEN := Lib.hid hlen
  have HSN := Lib.hid hsn
  have HQ := Lib.hid hq2
  have HAT := Lib.hid hat
  have HRL := Lib.hid hRL
  have HRS := Lib.hid hRS
  have HR0 := Lib.hid hR0
  have HN := Lib.hid hn
  have HOL := Lib.hid hOL2
  have HOO := Lib.hid hOL
  have st0 := (St.start w).addBlk #[.slice A N c] 26
  have S0 := Lib.hid st0
  have x0 := (st0.blk (i := 0) rfl).cell (i := 0) rfl
  have hmk := run_make_row' (P := Try.prog) 24 31 (.slice none 0 0) 24 Try.underlying24 Try.infoS rfl .i64 .i64 N (by omega) (by omega)
  have hmk2 := run_make_row' (P := Try.prog) 31 2 (.int .i64 0) 8 Try.underlying31 Try.info2 rfl .i64 .i64 q (by omega) (by omega)
  clear st0 hx ha hm hman hsys hq hq2 hat hRL hRS hR0 hn hOL hOL2 hsn hlen
  go_enter Try.func146, Try.ntmps146
  go_wp2_with fail
  refine (iforb_any _ HM.out HX.out (HA.out.keep S0.out.below)).mono ?_
  rintro e w1 ⟨g, n1, rfl, hn1, own, bel⟩
  rw [HN.out] at hn1
  rw [HOL.out] at own
  subst hn1
  rw [HQ.out]
  have S1 := Lib.hid (S0.out.addOwn bel own (Nat.le_refl _))
  have x1 := (S1.out.blk (i := 0) rfl).cell (i := 0) rfl
  clear own bel x0
  go_wp2_with fail
  refine (rank_bel _).mono ?_
  rintro e w3 ⟨rfl, bel⟩
  have st3 := S1.out.go bel
  obtain ⟨vals0, st4⟩ := st3.addRows ((Below.refl _ _).alloc (Nat.le_refl _) _) (ownSS_make w3 N 31 (by unfold maxLen; omega)) (Nat.le_refl _) (by simp)
  have x4 := (st4.blk (i := 0) rfl).cell (i := 0) rfl
  have S4 := Lib.hid (show St w _ (syPs w.heap.size (.slice A N c) g n1 OL w3.heap.size N vals0 (rwTo (stL xss) N 0 [])) from by rw [rwTo_zero]; exact st4)
  clear bel x1 st3 st4
  go_wp2
  clear hmk x4
  obtain ⟨gI, hgI⟩ : ∃ g, w3.heap.size = g := ⟨_, rfl⟩
  rw [hgI] at S4 ⊢
  clear hgI
  go_loopw [21] (fun v wr => ∃ (k : Nat) (vals : List Value), k ≤ N ∧ v = .int .i64 k ∧ St w wr (syPs w.heap.size (.slice A N c) g n1 OL gI N vals (rwTo (stL xss) N k []))) (fun v _ => N - (intOf v).toNat)
  case atStart => exact ⟨0, vals0, Nat.zero_le _, rfl, S4.out⟩
  case round =>
    obtain ⟨k, vals, hk, rfl, st⟩ := hrel
    have S := Lib.hid st
    have xk := (st.blk (i := 0) rfl).cell (i := 0) rfl
    clear S4 st
    by_cases hkN : k < N
    · obtain ⟨b2, o2, A2, c2, gg, rfl, hgg, hcw0, hrd, hms⟩ := HA.out.row (k := k) (by rw [HX.out]; exact hkN)
      have hcw := cell_be hcw0 S.out.below
      clear hcw0
      have hlg := sys_len HS.out hgg
      obtain ⟨l, hl⟩ : ∃ l, gg.length = l := ⟨_, rfl⟩
      rw [hl] at hcw hms hlg
      obtain rfl : l = n1 := by omega
      have HGG := Lib.hid hgg
      have HGM := Lib.hid (List.mem_of_getElem? hgg)
      have st5 := S.out.addMake (.int .i64 0) q 2 (by unfold maxLen; omega)
      obtain ⟨u, hu⟩ : ∃ u, vals[k]? = some u := ⟨_, List.getElem?_eq_getElem (by have := (st5.rows (i := 2) rfl).1; omega)⟩
      have c3 := own_cell (st5.rows (i := 2) rfl) hu
      have f3 := (st5.rows (i := 2) rfl).frozenAt k
      have st5b : St w (wr.alloc (.cells (madeCells #[.int .i64 0] q) 2)) (syPs w.heap.size (.slice (some ⟨b2, o2, none⟩) N c) g l OL gI N vals (rwTo (stL xss) N k []) ++ [.own 2 (some ⟨wr.heap.size, 0, none⟩) q q (ints (List.replicate q 0))]) := by simpa [ints, syPs] using st5
      have st6 := (st5b.rowPut (i := 2) (j := 3) (ys := List.replicate q 0) rfl rfl (by simp) (by decide) (by decide) hkN).take 3
      have hvl : vals.length = N := by have := (S.out.rows (i := 2) rfl).1; omega
      have HV := Lib.hid (show (vals.set k (.slice (some ⟨wr.heap.size, 0, none⟩) q q))[k]? = some (.slice (some ⟨wr.heap.size, 0, none⟩) q q) from List.getElem?_set_self (by rw [hvl]; exact hkN))
      obtain ⟨valsK, hvK⟩ : ∃ v, vals.set k (.slice (some ⟨wr.heap.size, 0, none⟩) q q) = v := ⟨_, rfl⟩
      obtain ⟨g5, hg5⟩ : ∃ g, wr.heap.size = g := ⟨_, rfl⟩
      have S6 := Lib.hid (show St w ((wr.alloc (.cells (madeCells #[.int .i64 0] q) 2)).setCell ⟨gI, k, none⟩ (.slice (some ⟨wr.heap.size, 0, none⟩) q q)) (syPs w.heap.size (.slice (some ⟨b2, o2, none⟩) N c) g l OL gI N valsK (rwTo (stL xss) N k (List.replicate q 0))) from by
        rw [← hvK, ← rwTo_set hkN (x := [])]
        exact st6)
      rw [hvK, hg5] at HV
      have kI : (k : Int) < (N : Int) := by omega
      have HRD := Lib.hid hrd
      clear st5 st5b st6 hu hvK hvl hgg hrd
      go_wp2
      clear c3 f3 hmk2
      rw [hg5] at S6
      go_loopw [33] (fun v wi => ∃ (f : Nat) (D : List Int), f ≤ l ∧ v = .int .i64 f ∧ St w wi (syPs w.heap.size (.slice (some ⟨b2, o2, none⟩) N c) g l OL gI N valsK (rwTo (stL xss) N k D)) ∧ StR xss gg f D) (fun v _ => l - (intOf v).toNat)
      case atStart => exact ⟨0, _, Nat.zero_le _, rfl, S6.out, HR0.out gg⟩
      case round =>
        obtain ⟨f, D, hf, rfl, st2, hst⟩ := hrel
        have S2 := Lib.hid st2
        have ST := Lib.hid hst
        have hDl : D.length = q := by rw [hst.1, ← HQ.out]; rfl
        clear st2 hst S6 S
        by_cases hfl : f < l
        · obtain ⟨j, hj, hjo⟩ := HAT.out f hfl
          have hrd2 := HRD.out.keep S2.out.below
          obtain ⟨b4, o4, y, rfl, hgy, hcy⟩ := hrd2.int (k := f) (by omega)
          obtain ⟨r, rfl, hr0⟩ := sys_at HS.out HGG.out hgy
          have hrl : r < l := by omega
          obtain ⟨v, hv, hvo⟩ := HAT.out r hrl
          have hco := own_cell (S2.out.own (i := 1) rfl) (show (ints OL)[f]? = some (.int .i64 j) by rw [ints, List.getElem?_map, hjo]; rfl)
          have hcr := own_cell (S2.out.own (i := 1) rfl) (show (ints OL)[r]? = some (.int .i64 v) by rw [ints, List.getElem?_map, hvo]; rfl)
          have hrow := rwTo_at (L := stL xss) (x := D) hkN
          obtain ⟨A8, c8, hv8, hown8⟩ := S2.out.rowAt (i := 2) (k := k) rfl hrow
          rw [HV.out, hDl] at hv8
          simp only [Option.some.injEq, Value.slice.injEq, true_and] at hv8
          obtain ⟨rfl, rfl⟩ := hv8
          rw [hDl] at hown8
          have hcI := own_cell (S2.out.rows (i := 2) rfl) HV.out
          obtain ⟨u8, hu8⟩ := ints_at hDl hj
          have hcj := own_cell hown8 hu8
          have hfj := hown8.frozenAt j
          have ST2 := Lib.hid (HRS.out gg f j D HGM.out hfl ST.out hjo)
          have hfz : fz OL (fz gg (f : Int)) = (v : Int) := by rw [show fz gg (f : Int) = (r : Int) from fz_at hgy, fz_at hvo]
          have HFZ := Lib.hid hfz
          have HDL := Lib.hid hDl
          have HROW := Lib.hid hrow
          have HOW := Lib.hid hown8
          have jI : (j : Int) < (q : Int) := by omega
          clear hrd2 hgy hvo hjo hrow hu8 hfz hDl hown8
          go_wp2
          go_still_tail 13, (by kernel_rfl)
          have S4 := Lib.hid (S2.out.go (below_drewN (Below.refl _ _) 1))
          obtain ⟨A9, c9, hv9, hown9⟩ := S4.out.rowAt (i := 2) (k := k) rfl HROW.out
          rw [HV.out, HDL.out] at hv9
          simp only [Option.some.injEq, Value.slice.injEq, true_and] at hv9
          obtain ⟨rfl, rfl⟩ := hv9
          rw [HDL.out] at hown9
          have hst9 := hown9.stored j (.int .i64 (v : Int))
          have h1 := hst9.1
          rw [ints_set] at h1
          have h5 := S4.out.rowWrite (i := 2) (k := k) (ys := D.set j (v : Int)) rfl (by decide) HROW.out (by rw [HDL.out]; exact HV.out) (Below.refl _ _) (by simp) (by rw [HDL.out]; exact h1) (by rw [HDL.out]; exact hst9.2)
          have S5 := Lib.hid (show St w _ (syPs w.heap.size (.slice (some ⟨b2, o2, none⟩) N c) g l OL gI N valsK (rwTo (stL xss) N k (D.set j (v : Int)))) from by
            rw [← rwTo_set hkN (x := D)]
            exact h5)
          clear hst9 h1 h5 hown9
          go_wp2
          go_roundw
          case rel => exact ⟨f + 1, D.set j (v : Int), by omega, by go_num, S5.out, by rw [← HFZ.out]; exact ST2.out⟩
          case measure => simp [intOf]; omega
        · obtain rfl : f = l := by omega
          obtain rfl := HRL.out gg D HGM.out ST.out
          have S3 := Lib.hid (show St w _ (syPs w.heap.size (.slice (some ⟨b2, o2, none⟩) N c) g f OL gI N valsK (rwTo (stL xss) N (k + 1) [])) from by
            rw [← rwTo_next (show (stL xss)[k]? = some (stRow xss gg) from by rw [stL, List.getElem?_map, HGG.out]; rfl)]
            exact S2.out)
          go_wp2
          go_roundw
          case rel => exact ⟨k + 1, valsK, by omega, by go_num, S3.out⟩
          case measure => simp [intOf]; omega
    · obtain rfl : k = N := by omega
      have h := S.out
      rw [rwTo_all HSN.out] at h
      have S7 := Lib.hid h
      clear h S
      go_wp2
      go_ret
      exact ⟨_, k, k, rfl, HSN.out, S7.out.sep.ownSS (i := 2) rfl, S7.out.below⟩
end Go.Proofs.Ytmikoihpmhfafaa
