import Derived.Test.YtmgoaabeopnopaaL25
import Derived.Test.YtmgoaabeopnopaaL11
import Derived.Test.YtmgoaabeopnopaaL13
import Derived.Test.YtmgoaabeopnopaaL8
import Derived.StillTailTactics
/- Faces under automorphisms. Plain facts. -/
namespace Go.Proofs.Ytmgoaabeopnopaa
open Go.RowKit

section
variable {xss : List (List Int)} {i p q : Nat} {L : List Int}
/-- The faces of rank i of the flags. -/
abbrev fL (xss : List (List Int)) (i : Nat) : List Int := facL xss (flN xss) i
/-- How many faces there are. -/
def fcn (xss : List (List Int)) (i : Nat) : Nat := (orbsTo (xss.eraseIdx i) (flN xss) (flN xss)).length
theorem fL_len : (fL xss i).length = flN xss := facL_len _ _ _
theorem fL_at (hm : IsMan xss) (hp : p < flN xss) : ∃ j : Nat, j < fcn xss i ∧ (fL xss i)[p]? = some (j : Int) := by
  obtain ⟨j, h1, h2⟩ := lab_at (okSys_erase hm.sys i) (by have := hm.f2; omega) rfl hp
  exact ⟨j, h2, h1⟩
theorem fL_same (hm : IsMan xss) (hp : p < flN xss) (hq : q < flN xss) : fz (fL xss i) p = fz (fL xss i) q ↔ (q : Int) ∈ orbL (xss.eraseIdx i) (flN xss) p := by
  have hs := okSys_erase hm.sys i
  obtain ⟨j, hj, hpj⟩ := fL_at (i := i) hm hp
  obtain ⟨k, hk, hqk⟩ := fL_at (i := i) hm hq
  obtain ⟨o, ho, hpo⟩ := (lab_iff hs hp).1 hpj
  obtain ⟨r, hr, hro⟩ := orbsTo_of (flN xss) (List.mem_of_getElem? ho)
  subst hro
  obtain ⟨h1, h2⟩ := orb_same hs hr hp hpo
  obtain ⟨_, h3⟩ := orb_same hs hp hr h1
  rw [fz_at hpj, fz_at hqk]
  constructor
  · intro h
    have : j = k := by omega
    subst this
    obtain ⟨o', ho', hqo⟩ := (lab_iff hs hq).1 hqk
    rw [ho] at ho'
    injection ho' with ho'
    subst ho'
    exact h2 _ hqo
  · intro h
    have := (lab_iff hs hq).2 ⟨_, ho, h3 _ h⟩
    have h4 : (fL xss i)[q]? = some (j : Int) := this
    rw [hqk] at h4
    injection h4 with h4
    exact h4.symm
theorem fL_onto (hm : IsMan xss) {j : Nat} (hj : j < fcn xss i) : ∃ f, f < flN xss ∧ (fL xss i)[f]? = some (j : Int) := by
  have hs := okSys_erase hm.sys i
  have ho := List.getElem?_eq_getElem (l := orbsTo (xss.eraseIdx i) (flN xss) (flN xss)) hj
  obtain ⟨r, hr, hro⟩ := orbsTo_of (flN xss) (List.mem_of_getElem? ho)
  exact ⟨r, hr, (lab_iff hs hr).2 ⟨_, ho, by rw [hro]; exact (orb_facts hs hr).2.1⟩⟩
theorem fL_in (hm : IsMan xss) : ∀ x ∈ fL xss i, 0 ≤ x ∧ x < (fcn xss i : Int) := by
  intro x hx
  obtain ⟨f, hf, he⟩ := List.mem_iff_getElem.1 hx
  rw [fL_len] at hf
  obtain ⟨j, hj, hx⟩ := fL_at (i := i) hm hf
  rw [List.getElem?_eq_getElem (by rw [fL_len]; exact hf), he] at hx
  injection hx with hx
  omega
theorem fcn_le (hm : IsMan xss) : fcn xss i ≤ flN xss := (orbsTo_facts (okSys_erase hm.sys i) (flN xss) (Nat.le_refl _)).2.2.1
theorem fcn_pos (hm : IsMan xss) : 0 < fcn xss i := by
  obtain ⟨j, hj, _⟩ := fL_at (i := i) hm (p := 0) (by have := hm.f2; omega)
  omega
theorem fL_grt (hm : IsMan xss) : grtL (fL xss i) = (fcn xss i : Int) := lab_cnt (okSys_erase hm.sys i) (by have := hm.f2; omega)
/-- An automorphism leads flags of one face to flags of one face. -/
theorem fL_aut (hm : IsMan xss) (hL : L ∈ autL xss) (hp : p < flN xss) (hq : q < flN xss) (h : fz (fL xss i) p = fz (fL xss i) q) : fz (fL xss i) (fz L p) = fz (fL xss i) (fz L q) := by
  have hn : 0 < flN xss := by have := hm.f2; omega
  have hH := (aut_iff hm).1 hL
  have h1 := (hom_iso hm.sys hm.sys rfl hn (fun _ hq => hm.all hq) hH).erase i
  have hs := okSys_erase hm.sys i
  have hmem := (fL_same hm hp hq).1 h
  have h2 := (tr_orb (h1.tr hs) (n := flN xss) (x := (p : Int)) ⟨by omega, by omega⟩).2
  obtain ⟨a, ha⟩ := Int.eq_ofNat_of_zero_le (hH.im p hp).1
  obtain ⟨b, hb⟩ := Int.eq_ofNat_of_zero_le (hH.im q hq).1
  have han : a < flN xss := by have := (hH.im p hp).2; omega
  have hbn : b < flN xss := by have := (hH.im q hq).2; omega
  rw [ha, hb]
  refine (fL_same hm han hbn).2 ?_
  have h3 := List.mem_map_of_mem (f := fun x : Int => (((fz L ((x.toNat : Nat) : Int)).toNat : Nat) : Int)) hmem
  rw [h2] at h3
  simpa [ha, hb] using h3
/-- To which faces an automorphism leads the faces. -/
def fpL (xss : List (List Int)) (i : Nat) (L : List Int) : List Int := (List.range (fcn xss i)).map fun (o : Nat) => fz (fL xss i) (fz L (idxL (fL xss i) (o : Int)))
theorem fpL_len : (fpL xss i L).length = fcn xss i := by simp [fpL]
theorem fpL_at (hm : IsMan xss) (hL : L ∈ autL xss) (hp : p < flN xss) {j : Nat} (hj : (fL xss i)[p]? = some (j : Int)) : (fpL xss i L)[j]? = some (fz (fL xss i) (fz L p)) := by
  have hjl : j < fcn xss i := by have := (fL_in hm _ (List.mem_of_getElem? hj)).2; omega
  have hi := fz_idx (List.mem_of_getElem? hj)
  obtain ⟨a, ha⟩ := Int.eq_ofNat_of_zero_le hi.1
  rw [fL_len] at hi
  have h2 := fL_aut (i := i) hm hL (show a < flN xss by omega) hp (by rw [fz_at hj, ← ha]; exact hi.2.2)
  unfold fpL
  rw [List.getElem?_map, List.getElem?_range hjl]
  simp only [Option.map_some]
  rw [ha, h2]
/-- What the list of faces holds when the flags below f are done. -/
def FpR (xss : List (List Int)) (i : Nat) (L : List Int) (f : Nat) (D : List Int) : Prop := D.length = fcn xss i ∧ ∀ k : Nat, k < f → ∀ j : Nat, (fL xss i)[k]? = some (j : Int) → D[j]? = some (fz (fL xss i) (fz L k))
theorem fpR_start : FpR xss i L 0 (List.replicate (fcn xss i) 0) := ⟨by simp, fun k hk => by omega⟩
theorem fpR_step {D : List Int} {f j : Nat} (hm : IsMan xss) (hL : L ∈ autL xss) (hf : f < flN xss) (h : FpR xss i L f D) (hj : (fL xss i)[f]? = some (j : Int)) : FpR xss i L (f + 1) (D.set j (fz (fL xss i) (fz L f))) := by
  have hjl : j < fcn xss i := by have := (fL_in hm _ (List.mem_of_getElem? hj)).2; omega
  refine ⟨by simp [h.1], fun k hk u hu => ?_⟩
  by_cases e : j = u
  · subst e
    rw [List.getElem?_set_self (by rw [h.1]; exact hjl)]
    have h1 := fpL_at hm hL hf hj
    have h2 := fpL_at hm hL (show k < flN xss by omega) hu
    rw [h1] at h2
    exact h2
  · rw [List.getElem?_set_ne e]
    rcases Nat.lt_succ_iff_lt_or_eq.1 hk with h1 | rfl
    · exact h.2 k h1 u hu
    · rw [hj] at hu; injection hu with hu; omega
theorem fpR_done {D : List Int} (hm : IsMan xss) (hL : L ∈ autL xss) (h : FpR xss i L (flN xss) D) : D = fpL xss i L := by
  apply List.ext_getElem?
  intro j
  by_cases hj : j < fcn xss i
  · obtain ⟨f, hf, he⟩ := fL_onto hm hj
    rw [h.2 f hf j he, fpL_at hm hL hf he]
  · rw [List.getElem?_eq_none (by rw [h.1]; omega), List.getElem?_eq_none (by rw [fpL_len]; omega)]
/-- The automorphisms that keep a face. -/
noncomputable def sbL (xss : List (List Int)) (i : Nat) (y : Int) : List (List Int) := (autL xss).filter fun L => decide (fz (fL xss i) (fz L (idxL (fL xss i) y)) = y)
noncomputable def sbR (xss : List (List Int)) (i y : Int) : List (List Int) := if fcC xss i y (-1) = 0 then sbL xss i.toNat y else []
theorem sbR_le (xss : List (List Int)) (i y : Int) : (sbR xss i y).length ≤ 1048576 ∧ ∀ xs ∈ sbR xss i y, (xs.length : Int) ≤ 1048576 := by
  unfold sbR
  split
  · rename_i h
    have hm := okMan_iff.1 (fcC_zero h).1
    have h4 := hm.f4
    have h1 := autL_len xss
    have h2 := List.length_filter_le (fun L => decide (fz (fL xss i.toNat) (fz L (idxL (fL xss i.toNat) y)) = y)) (autL xss)
    refine ⟨by unfold sbL; omega, fun xs hx => ?_⟩
    have := autL_rows xs (List.mem_filter.1 hx).1
    omega
  · simp
end
end Go.Proofs.Ytmgoaabeopnopaa
/- spec.l06Faces and l06Code. -/
namespace Go.Proofs.Ytmgoaabeopnopaa
open Go.RowKit

abbrev fpPs (h0 : Nat) (m : Value) (g n c2 : Nat) (FL : List Int) (A' : Option Addr) (k c' : Nat) (vals : List Value) (L : List (List Int)) : List Pc :=
  [.blk h0 #[m] 27, .own 2 (some ⟨g, 0, none⟩) n c2 (ints FL), .rows 2 36 A' k c' vals L]

set_option maxHeartbeats 6400000 in
set_option maxRecDepth 100000 in
theorem sfp_any {A B : Option Addr} {c N M d i : Nat} {xss : List (List Int)} (w : World) (hm : okMan xss = true) (hx : xss.length = N) (ha : RdSS w A xss) (hi : i < N) (hM : (autL xss).length = M) (hb : RdSS w B (autL xss)) :
    Calls Try.prog 131 #[.agg #[.slice A N c], .int .i64 i, .slice B M d] w (RetSL w ((autL xss).map (fpL xss i))) := by
  have hman := okMan_iff.1 hm
  have hsys := hman.sys
  have hn4 := hman.f4
  have hn2 := hman.f2
  have hN5 := hman.r5
  have hpos := hman.pos hx
  have hM4 : M ≤ 400 := by have := autL_len xss; omega
  rw [hx] at hN5
  obtain ⟨b, o, A0, c0, rfl, hc0⟩ := man_row0 hman ha
  have hcl := fcn_le (i := i) hman
  have hlen := @fL_len xss i
  have hat := fun (f : Nat) (hf : f < flN xss) => fL_at (i := i) hman hf
  have hgr := fL_grt (i := i) hman
  have hin := fL_in (i := i) hman
  have hR0 := fun (L : List Int) => @fpR_start xss i L
  have hRS := fun (L : List Int) (f j : Nat) (D : List Int) (h : L ∈ autL xss) (hf : f < flN xss) (h2 : FpR xss i L f D) (h3 : (fL xss i)[f]? = some (j : Int)) => fpR_step hman h hf h2 h3
  have hRL := fun (L : List Int) (D : List Int) (h : L ∈ autL xss) (h2 : FpR xss i L (flN xss) D) => fpR_done hman h h2
  have hpl := fun (L : List Int) => @fpL_len xss i L
  have hok := fun (L : List Int) (h : L ∈ autL xss) => aut_ok hman h
  have hrl := fun (L : List Int) (h : L ∈ autL xss) => autL_rows L h
  obtain ⟨q, hq⟩ : ∃ q, fcn xss i = q := ⟨_, rfl⟩
  obtain ⟨FL, hFL⟩ : ∃ FL, fL xss i = FL := ⟨_, rfl⟩
  have hFL2 : facL xss (flN xss) i = FL := hFL
  obtain ⟨n, hn⟩ : ∃ n, flN xss = n := ⟨_, rfl⟩
  obtain ⟨P, hP⟩ : ∃ P, autL xss = P := ⟨_, rfl⟩
  rw [hq] at hcl hat hgr hin hR0 hpl
  rw [hn] at hsys hn2 hn4 hcl hlen hat hFL2 hRS hRL hrl hc0
  rw [hFL] at hlen hat hgr hin hRS
  rw [hP] at hM hb hRS hRL hok hrl ⊢
  have HM := Lib.hid hm
  have HX := Lib.hid hx
  have HA := Lib.hid ha
  have HB := Lib.hid hb
  have HC0 := Lib.hid hc0
  have HS := Lib.hid hsys
  have HLEN := Lib.hid hlen
  have HAT := Lib.hid hat
  have HGR := Lib.hid hgr
  have HIN := Lib.hid hin
  have HR0 := Lib.hid hR0
  have HRS := Lib.hid hRS
  have HRL := Lib.hid hRL
  have HPL := Lib.hid hpl
  have HOK := Lib.hid hok
  have HRR := Lib.hid hrl
  have HFL := Lib.hid hFL2
  have HFX := Lib.hid hFL
  have HMM := Lib.hid hM
  have HQ := Lib.hid hq
  have st0 := (St.start w).addBlk #[.slice (some ⟨b, o, none⟩) N c] 27
  have S0 := Lib.hid st0
  have x0 := (st0.blk (i := 0) rfl).cell (i := 0) rfl
  have hmk := run_make_row' (P := Try.prog) 36 2 (.int .i64 0) 8 Try.underlying36 Try.info2 rfl .i64 .i64 q (by omega) (by omega)
  clear st0 hx ha hm hman hsys hlen hat hgr hin hR0 hRS hRL hpl hok hrl hq hFL hFL2 hn hP hM hb hc0
  go_enter Try.func131, Try.ntmps131
  go_wp2_with fail
  refine (sfaces_any _ HX.out (HA.out.keep S0.out.below) HS.out (cell_be HC0.out S0.out.below) hi).mono ?_
  rintro e w1 ⟨A1, c1, rfl, own, bel⟩
  rw [HFL.out] at own
  obtain ⟨g, rfl⟩ := own_shape own (by omega)
  have S1 := Lib.hid ((S0.out.addOwn bel own (Nat.le_refl _)).addMadeRows 2 36)
  clear own bel x0
  go_wp2
  go_loopw [8, 9] (fun u v wr => ∃ (k c' : Nat) (A' : Option Addr) (vals : List Value), k ≤ M ∧ v = .int .i64 k ∧ u = .slice A' k c' ∧ St w wr (fpPs w.heap.size (.slice (some ⟨b, o, none⟩) N c) g n c1 FL A' k c' vals ((P.take k).map (fpL xss i)))) (fun _ v _ => M - (intOf v).toNat)
  case atStart => exact ⟨0, 0, _, [], Nat.zero_le _, rfl, rfl, by simpa using S1.out⟩
  case round =>
    obtain ⟨k, c', A', vals, hk, rfl, rfl, st⟩ := hrel
    have S := Lib.hid st
    clear S1 st
    by_cases hkM : k < M
    · obtain ⟨b2, o2, A4, c4, L, rfl, hL, hcw0, hrd, hms⟩ := HB.out.row (k := k) (by rw [HMM.out]; exact hkM)
      have hLm := List.mem_of_getElem? hL
      have hLl := HRR.out L hLm
      rw [hLl] at hcw0 hms
      have HLM := Lib.hid hLm
      have HL := Lib.hid hL
      have HLL := Lib.hid hLl
      have HRD := Lib.hid hrd
      have HCW := Lib.hid hcw0
      have kI : (k : Int) < (M : Int) := by omega
      clear hL hLm hLl hrd hcw0
      go_wp2_with fail
      refine (grt_any _ HLEN.out (own_rd (S.out.own (i := 1) rfl)) (by omega) (fun x hx => ⟨(HIN.out x hx).1, by have := (HIN.out x hx).2; omega⟩)).mono ?_
      rintro e w5 ⟨rfl, rfl⟩
      rw [HGR.out]
      have S3 := Lib.hid (show St w (wr.alloc (.cells (madeCells #[.int .i64 0] q) 2)) (fpPs w.heap.size (.slice (some ⟨b, o, none⟩) N c) g n c1 FL A' k c' vals ((P.take k).map (fpL xss i)) ++ [.own 2 (some ⟨wr.heap.size, 0, none⟩) q q (ints (List.replicate q 0))]) from by
        have h := S.out.addMake (.int .i64 0) q 2 (by unfold maxLen; omega)
        simpa [ints, fpPs] using h)
      go_wp2
      obtain ⟨g5, hg5⟩ : ∃ g, wr.heap.size = g := ⟨_, rfl⟩
      rw [hg5] at S3 ⊢
      clear hg5 S
      go_loopw [11] (fun v wi => ∃ (f : Nat) (D : List Int), f ≤ n ∧ v = .int .i64 f ∧ St w wi (fpPs w.heap.size (.slice (some ⟨b, o, none⟩) N c) g n c1 FL A' k c' vals ((P.take k).map (fpL xss i)) ++ [.own 2 (some ⟨g5, 0, none⟩) q q (ints D)]) ∧ FpR xss i L f D) (fun v _ => n - (intOf v).toNat)
      case atStart => exact ⟨0, _, Nat.zero_le _, rfl, S3.out, HR0.out L⟩
      case round =>
        obtain ⟨f, D, hf, rfl, st2, hst⟩ := hrel
        have S2 := Lib.hid st2
        have ST := Lib.hid hst
        have hDl : D.length = q := by rw [hst.1, HQ.out]
        clear st2 hst S3
        by_cases hfn : f < n
        · obtain ⟨j, hj, hjo⟩ := HAT.out f hfn
          have hrd2 := HRD.out.keep S2.out.below
          have hcw := cell_be HCW.out S2.out.below
          obtain ⟨b4, o4, y, rfl, hgy, hcy⟩ := hrd2.int (k := f) (by rw [HLL.out]; omega)
          obtain ⟨r, rfl, hrn⟩ := okP_at (HOK.out L HLM.out) HLL.out hgy
          obtain ⟨v, hv, hvo⟩ := HAT.out r hrn
          have hco := own_cell (S2.out.own (i := 1) rfl) (show (ints FL)[f]? = some (.int .i64 j) by rw [ints, List.getElem?_map, hjo]; rfl)
          have hcr := own_cell (S2.out.own (i := 1) rfl) (show (ints FL)[r]? = some (.int .i64 v) by rw [ints, List.getElem?_map, hvo]; rfl)
          obtain ⟨u8, hu8⟩ := ints_at hDl hj
          have hcj := own_cell (S2.out.own (i := 3) rfl) hu8
          have hfj := (S2.out.own (i := 3) rfl).frozenAt j
          have ST2 := Lib.hid (HRS.out L f j D HLM.out hfn ST.out hjo)
          have HFZ := Lib.hid (show fz FL (fz L (f : Int)) = (v : Int) by rw [show fz L (f : Int) = (r : Int) from fz_at hgy, fz_at hvo])
          have jI : (j : Int) < (q : Int) := by omega
          clear hrd2 hgy hvo hjo hu8
          go_wp2
          go_still_tail 16, (by kernel_rfl)
          have S4 := S2.out.go (below_drewN (Below.refl _ _) 1)
          have S5 := Lib.hid (show St w _ (fpPs w.heap.size (.slice (some ⟨b, o, none⟩) N c) g n c1 FL A' k c' vals ((P.take k).map (fpL xss i)) ++ [.own 2 (some ⟨g5, 0, none⟩) q q (ints (D.set j (v : Int)))]) from by
            have h := S4.store (i := 3) rfl j (.int .i64 (v : Int))
            rw [ints_set] at h
            exact h)
          clear S4
          go_wp2
          go_roundw
          case rel => exact ⟨f + 1, D.set j (v : Int), by omega, by go_num, S5.out, by rw [← HFZ.out]; exact ST2.out⟩
          case measure => simp [intOf]; omega
        · obtain rfl : f = n := by omega
          obtain rfl := HRL.out L D HLM.out ST.out
          have hlo2 := S2.out.lo
          go_wp2_with (at_builtin; refine wpList_push_at _ rfl _ _ 22 36 rfl Try.underlying22 (.slice none 0 0) 24 Try.infoS rfl w.heap.size _ _ _ rfl (S2.out.rows (i := 2) rfl) _ rfl rfl (by omega) (by omega) hlo2 ?_)
          intro A8 c8 w8 own8 gr8 hat8
          have st8 := (S2.out.rowPush (i := 2) (j := 3) rfl rfl (HPL.out L) (by decide) (by decide) own8 gr8 hat8).take 3
          have S8 := Lib.hid st8
          clear own8 gr8 hat8 st8
          go_wp2
          go_roundw
          case rel => exact ⟨k + 1, c8, A8, _, by omega, by go_num, rfl, by rw [List.take_add_one, HL.out, List.map_append]; exact S8.out⟩
          case measure => simp [intOf]; omega
    · obtain rfl : k = M := by omega
      have h := S.out
      rw [List.take_of_length_le (by rw [HMM.out]; exact Nat.le_refl _)] at h
      have S7 := Lib.hid h
      clear h S
      go_wp2
      go_ret
      exact ⟨A', k, c', rfl, by rw [List.length_map, HMM.out], S7.out.sep.ownSS (i := 2) rfl, S7.out.below⟩
end Go.Proofs.Ytmgoaabeopnopaa
