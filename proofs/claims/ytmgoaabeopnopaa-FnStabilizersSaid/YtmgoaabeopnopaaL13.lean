import Derived.Test.YtmgoaabeopnopaaL9
import Derived.Test.YtmgoaabeopnopaaL12
import Derived.Test.YtmgoaabeopnopaaL8
/- Sections: facts outside the walks. -/
namespace Go.Proofs.Ytmgoaabeopnopaa
open Go.RowKit

theorem okSys_cut {n : Int} {xss : List (List Int)} (h : okSys n xss = true) (i k : Nat) : okSys n ((xss.drop i).take k) = true := by
  have h1 := sys_parts h
  refine decide_eq_true ⟨h1.1, h1.2.1, ?_, fun xs hx => h1.2.2.2 xs (List.mem_of_mem_drop (List.mem_of_mem_take hx))⟩
  have : ((xss.drop i).take k).length ≤ xss.length := by simp; omega
  omega
/-- The numbers that flags get: those of the first k of a list. -/
def numTo (ord : List Int) (n k : Nat) : List Int := (List.range n).map fun (x : Nat) => if (x : Int) ∈ ord.take k then idxL ord (x : Int) else 0
def secRow (ord m : List Int) : List Int := ord.map fun x => idxL ord (fz m x)
def secL (yss : List (List Int)) (n f : Nat) : List (List Int) := yss.map (secRow (orbL yss n f))
section
variable {yss : List (List Int)} {ord m : List Int} {n k f : Nat}
theorem orb_facts (hsys : okSys n yss = true) (hf : f < n) : Passed n (orbL yss n f) ∧ (f : Int) ∈ orbL yss n f ∧ Closed yss (orbL yss n f) := by
  have h := orb_aside hsys (passed_nil n) (closed_nil yss) hf (by simp)
  simpa using h.2
theorem idx_nodup (hnd : ord.Nodup) {x : Int} (hx : ord[k]? = some x) : idxL ord x = k := by
  refine idxL_some hx fun j hj h => ?_
  have hk := (List.getElem?_eq_some_iff.1 hx)
  have hj2 := (List.getElem?_eq_some_iff.1 h)
  have := (List.getElem_inj hnd).1 (hj2.2.trans hk.2.symm)
  omega
theorem numTo_len : (numTo ord n k).length = n := by simp [numTo]
theorem numTo_zero : numTo ord n 0 = List.replicate n 0 := by
  apply List.ext_getElem?
  intro j
  by_cases hj : j < n
  · simp [numTo, hj]
  · rw [List.getElem?_eq_none (by rw [numTo_len]; omega), List.getElem?_eq_none (by simp; omega)]
theorem numTo_at {x : Nat} (hx : x < n) : (numTo ord n k)[x]? = some (if (x : Int) ∈ ord.take k then idxL ord (x : Int) else 0) := by simp [numTo, hx]
theorem numTo_step (hp : Passed n ord) {x : Nat} (hx : ord[k]? = some (x : Int)) : (numTo ord n k).set x (k : Int) = numTo ord n (k + 1) := by
  have hxn := hp.1 _ (List.mem_of_getElem? hx)
  apply List.ext_getElem?
  intro j
  by_cases hj : j < n
  · by_cases hjx : x = j
    · subst hjx
      rw [List.getElem?_set_self (by rw [numTo_len]; exact hj), numTo_at hj, if_pos (by rw [List.take_add_one, hx]; simp), idx_nodup hp.2 hx]
    · rw [List.getElem?_set_ne hjx, numTo_at hj, numTo_at hj]
      have : (j : Int) ∈ ord.take (k + 1) ↔ (j : Int) ∈ ord.take k := by
        rw [List.take_add_one, hx]
        simp
        omega
      simp only [this]
  · rw [List.getElem?_eq_none (by rw [List.length_set, numTo_len]; omega), List.getElem?_eq_none (by rw [numTo_len]; omega)]
theorem numTo_all {x : Nat} (hx : x < n) (hm : (x : Int) ∈ ord) : (numTo ord n ord.length)[x]? = some (idxL ord (x : Int)) := by
  rw [numTo_at hx, List.take_of_length_le (Nat.le_refl _), if_pos hm]
theorem secRow_len : (secRow ord m).length = ord.length := by simp [secRow]
theorem secRow_succ {x : Int} (hx : ord[k]? = some x) : (secRow ord m).take (k + 1) = (secRow ord m).take k ++ [idxL ord (fz m x)] := by
  rw [List.take_add_one]
  simp [secRow, hx]
theorem secL_len : (secL yss n f).length = yss.length := by simp [secL]
theorem secL_succ (hm : yss[k]? = some m) : (secL yss n f).take (k + 1) = (secL yss n f).take k ++ [secRow (orbL yss n f) m] := by
  rw [List.take_add_one]
  simp [secL, hm]
end
end Go.Proofs.Ytmgoaabeopnopaa
/- spec.l04Section. -/
namespace Go.Proofs.Ytmgoaabeopnopaa
open Go.RowKit

abbrev secPs (H g3 g4 : Nat) (m : Value) (l c2 n k cR : Nat) (A2 AR : Option Addr) (ord nums : List Int) (vals : List Value) (L : List (List Int)) : List Pc :=
  [.blk H #[m] 27, .blk (H + 1) #[.slice none 0 0] 27, .own 2 A2 l c2 (ints ord), .own 2 (some ⟨g3, 0, none⟩) n n (ints nums), .blk g4 #[.slice AR k cR] 27, .rows 2 36 AR k cR vals L]

set_option maxHeartbeats 3200000 in
set_option maxRecDepth 100000 in
theorem ssec_any {b o c N n c0 f i k : Nat} {A0 : Option Addr} {xss : List (List Int)} (w : World) (hx : xss.length = N) (ha : RdSS w (some ⟨b, o, none⟩) xss) (hsys : okSys n xss = true) (h0 : w.cell? ⟨b, o, none⟩ = some (.slice A0 n c0)) (hf : f < n) (hik : i ≤ k) (hk : k < N) (hcap : N ≤ c) (hc63 : c ≤ 9223372036854775807) (hN : N ≤ 16) :
    Calls Try.prog 184 #[.agg #[.slice (some ⟨b, o, none⟩) N c], .int .i64 f, .int .i64 i, .int .i64 k] w (RetM w (secL ((xss.drop i).take (k + 1 - i)) n f)) := by
  obtain ⟨yss, hy⟩ : ∃ y, (xss.drop i).take (k + 1 - i) = y := ⟨_, rfl⟩
  have hys : okSys n yss = true := by rw [← hy]; exact okSys_cut hsys _ _
  have hyl : yss.length = k + 1 - i := by rw [← hy]; simp; omega
  have hya : RdSS w (some ⟨b, o + i, none⟩) yss := by rw [← hy]; exact rdSS_take (rdSS_drop ha)
  obtain ⟨hpa, hfm, hcl⟩ := orb_facts hys hf
  obtain ⟨ord, hord⟩ : ∃ l, orbL yss n f = l := ⟨_, rfl⟩
  have hol : ord.length ≤ n := by rw [← hord]; exact passed_len hpa
  have hn4 := (sys_parts hsys).2.1
  obtain ⟨l, hl⟩ : ∃ l, ord.length = l := ⟨_, rfl⟩
  obtain ⟨q, hq⟩ : ∃ q, k + 1 - i = q := ⟨_, rfl⟩
  have hsec : secL yss n f = yss.map (secRow ord) := by rw [secL, hord]
  have hsl : (secL yss n f).length = q := by rw [secL_len, hyl, hq]
  rw [hq] at hyl
  rw [hy]
  rw [hord] at hpa hcl
  have HORD := Lib.hid hord
  have HL := Lib.hid hl
  have HSL := Lib.hid hsl
  have HPA := Lib.hid hpa
  have HCL := Lib.hid hcl
  have HYA := Lib.hid hya
  have HYL := Lib.hid hyl
  have HYS := Lib.hid hys
  have HC0 := Lib.hid h0
  have hq63 : IntKind.i64.wrap ((k : Int) + 1) = ((k + 1 : Nat) : Int) := (IntWalk.i64_in _ (by omega)).trans (by omega)
  have hq1 : k + 1 - i = q := hq
  have hln : l ≤ n := by omega
  have hmk := run_make_row' (P := Try.prog) 36 2 (.int .i64 0) 8 Try.underlying36 Try.info2 rfl .i64 .i64 n (by omega) (by omega)
  have st0 := ((St.start w).addBlk #[.slice (some ⟨b, o, none⟩) N c] 27).addBlk #[.slice none 0 0] 27
  simp at st0
  have S0 := Lib.hid st0
  have hbc := (st0.blk (i := 0) rfl).cell (i := 0) rfl
  clear hx ha hsys h0 hy hys hyl hya hpa hfm hcl hord hl hol hsec hsl hq st0
  go_enter Try.func184, Try.ntmps184
  go_wp2_with fail
  refine (sorb_any _ HYL.out (HYA.out.keep S0.out.below) (by omega) HYS.out hf).mono ?_
  rintro e w1 ⟨A2, c2, rfl, own1, bel1⟩
  rw [HORD.out] at own1 ⊢
  rw [HL.out] at own1 ⊢
  have S1 := Lib.hid (S0.out.addOwn bel1 own1 (Nat.le_refl _))
  clear own1 bel1 hbc S0
  have hbc := (S1.out.blk (i := 0) rfl).cell (i := 0) rfl
  go_wp2_with fail
  refine (sFlags_bel _ (show 0 < N by omega) (cell_be HC0.out S1.out.below)).mono ?_
  rintro e w2 ⟨rfl, bel2⟩
  have st2 := (S1.out.go bel2).addMake (.int .i64 0) n 2 (by unfold maxLen; omega)
  have S2 := Lib.hid st2
  clear bel2 hbc S1 st2
  go_wp2
  clear hmk
  go_loopw [12] (fun v wr => ∃ j : Nat, j ≤ l ∧ v = .int .i64 j ∧ St w wr [.blk w.heap.size #[.slice (some ⟨b, o, none⟩) N c] 27, .blk (w.heap.size + 1) #[.slice none 0 0] 27, .own 2 A2 l c2 (ints ord), .own 2 (some ⟨w2.heap.size, 0, none⟩) n n (ints (numTo ord n j))] ∧ wr.heap.size = w2.heap.size + 1) (fun v _ => l - (intOf v).toNat)
  case atStart => exact ⟨0, Nat.zero_le _, rfl, by rw [numTo_zero]; simpa [ints] using S2.out, by simp⟩
  case round =>
    obtain ⟨j, hj, rfl, st, hsz⟩ := hrel
    clear S2
    by_cases hjl : j < l
    · obtain ⟨x, hx⟩ : ∃ x, ord[j]? = some x := ⟨_, List.getElem?_eq_getElem (by rw [HL.out]; exact hjl)⟩
      have hxb := HPA.out.1 x (List.mem_of_getElem? hx)
      obtain ⟨y, rfl⟩ := Int.eq_ofNat_of_zero_le hxb.1
      have hyn : y < n := by omega
      obtain ⟨gA, rfl⟩ := own_shape (st.own (i := 2) rfl) (show 0 < l by omega)
      have c1 := own_cell (st.own (i := 2) rfl) (show (ints ord)[j]? = some (.int .i64 (y : Int)) by simp [hx])
      obtain ⟨u, hu⟩ : ∃ u, (ints (numTo ord n j))[y]? = some u := ⟨_, List.getElem?_eq_getElem (by simp [numTo_len]; exact hyn)⟩
      have c3 := own_cell (st.own (i := 3) rfl) hu
      have f3 := (st.own (i := 3) rfl).frozenAt y
      have st3 := st.store (i := 3) rfl y (.int .i64 (j : Int))
      rw [ints_set, numTo_step HPA.out hx] at st3
      have S3 := Lib.hid st3
      have HSZ := Lib.hid hsz
      have yI : (y : Int) < (n : Int) := by omega
      clear st st3 hx hu hxb hsz
      go_wp2
      go_roundw
      case rel => exact ⟨j + 1, by omega, by go_num, S3.out, by simpa using HSZ.out⟩
      case measure => simp [intOf]; omega
    · obtain rfl : j = l := by omega
      have st4 := (st.addBlk #[.slice none 0 0] 27).addNilRows 2 36
      rw [hsz] at st4
      have S4 := Lib.hid st4
      have HSZ := Lib.hid hsz
      clear st st4
      go_wp2
      go_loopw [14] (fun v wr => ∃ (r cR : Nat) (AR : Option Addr) (vals : List Value), r ≤ q ∧ v = .int .i64 r ∧ St w wr (secPs w.heap.size w2.heap.size (w2.heap.size + 1) (.slice (some ⟨b, o, none⟩) N c) j c2 n r cR A2 AR ord (numTo ord n j) vals ((secL yss n f).take r))) (fun v _ => q - (intOf v).toNat)
      case atStart => exact ⟨0, 0, none, [], Nat.zero_le _, rfl, S4.out⟩
      case round =>
        obtain ⟨r, cR, AR, vals, hr, rfl, st⟩ := hrel
        clear S4
        by_cases hrq : r < q
        · obtain ⟨mv, hmv⟩ : ∃ mv, yss[r]? = some mv := ⟨_, List.getElem?_eq_getElem (by rw [HYL.out]; exact hrq)⟩
          have hml := sys_len HYS.out hmv
          have hlo := st.lo
          have S5 := Lib.hid (st.addMade 2)
          have HMV := Lib.hid hmv
          have hsl2 : (secRow ord mv).length = j := by rw [secRow_len, HL.out]
          have HSL2 := Lib.hid hsl2
          obtain ⟨wo, hwo⟩ : ∃ wo, wo = wr := ⟨_, rfl⟩
          subst hwo
          clear st hmv hsl2
          go_wp2
          go_loopw [15, 16] (fun u v wr => ∃ (t c6 : Nat) (A6 : Option Addr), t ≤ j ∧ u = .slice A6 t c6 ∧ v = .int .i64 t ∧ St w wr (secPs w.heap.size w2.heap.size (w2.heap.size + 1) (.slice (some ⟨b, o, none⟩) N c) j c2 n r cR A2 AR ord (numTo ord n j) vals ((secL yss n f).take r) ++ [.own 2 A6 t c6 (ints ((secRow ord mv).take t))])) (fun _ v _ => j - (intOf v).toNat)
          case atStart => exact ⟨0, 0, _, Nat.zero_le _, rfl, rfl, S5.out⟩
          case round =>
            obtain ⟨t, c6, A6, ht, rfl, rfl, st⟩ := hrel
            clear S5
            by_cases htj : t < j
            · obtain ⟨x, hx⟩ : ∃ x, ord[t]? = some x := ⟨_, List.getElem?_eq_getElem (by rw [HL.out]; exact htj)⟩
              have hxb := HPA.out.1 x (List.mem_of_getElem? hx)
              have hxm := List.mem_of_getElem? hx
              obtain ⟨y, rfl⟩ := Int.eq_ofNat_of_zero_le hxb.1
              have hyn : y < n := by omega
              obtain ⟨gA, rfl⟩ := own_shape (st.own (i := 2) rfl) (show 0 < j by omega)
              have c1 := own_cell (st.own (i := 2) rfl) (show (ints ord)[t]? = some (.int .i64 (y : Int)) by simp [hx])
              obtain ⟨b3, o3, A4, c4, mv', he, hg, hc, hrd, hms⟩ := (HYA.out.keep st.below).row (k := r) (by rw [HYL.out]; exact hrq)
              obtain ⟨rfl, rfl⟩ : b = b3 ∧ o + i = o3 := by simpa using he
              obtain rfl : mv' = mv := by rw [HMV.out] at hg; injection hg with hg; exact hg.symm
              obtain ⟨lm, hlm⟩ : ∃ l, mv'.length = l := ⟨_, rfl⟩
              rw [hlm] at hc hms hml
              obtain ⟨b4, o4, z, rfl, hgz, hcz⟩ := hrd.int (k := y) (by omega)
              obtain ⟨z, rfl, hz0⟩ := sys_at HYS.out hg hgz
              have hzm : (z : Int) ∈ ord := by
                have := HCL.out mv' (List.mem_of_getElem? hg) (y : Int) hxm
                rwa [fz_at hgz] at this
              have hzn : z < n := by have := HPA.out.1 _ hzm; omega
              have hnum := numTo_all (n := n) hzn hzm
              rw [HL.out] at hnum
              have c3 := own_cell (st.own (i := 3) rfl) (show (ints (numTo ord n j))[z]? = some (.int .i64 (idxL ord (z : Int))) by simp [hnum])
              have hsu := secRow_succ (m := mv') hx
              rw [fz_at hgz] at hsu
              have HSU := Lib.hid hsu
              have Sd := Lib.hid (st.go (below_drewN (Below.refl _ _) 1))
              have hlo2 := Sd.out.lo
              have zI : (z : Int) < (n : Int) := by omega
              have yI : (y : Int) < (lm : Int) := by omega
              clear st hx hxb hxm hg hgz hnum hsu hzm he hrd hlm
              go_wp2
              go_region_law ((refine step_push_h rfl (.tmp 56) (.tmp 70) 36 2 (by rfl) Try.underlying36 (.int .i64 0) 8 Try.info2 rfl wr.heap.size (by rfl) w.heap.size (.slice A6 t c6) t _ (by rfl) (Sd.out.own (i := 6) rfl) _ (by rfl) (by rfl) (by omega) (by omega) hlo2 ?_; intro A7 c7 w7 own7 gr7 hat7))
              all_goals
                have own8 : w7.ownsRow w.heap.size 2 1 (.slice A7 (t + 1) c7) (t + 1) (ints ((secRow ord mv').take (t + 1))) := by
                  rw [HSU.out]
                  simpa [ints] using own7
                have S7 := Lib.hid (Sd.out.push (i := 6) rfl own8 gr7 hat7)
                clear own7 own8 gr7 hat7
                go_wp2
                go_roundw
                case rel => exact ⟨t + 1, _, _, by omega, rfl, by go_num, S7.out⟩
                case measure => simp [intOf]; omega
            · obtain rfl : t = j := by omega
              rw [List.take_of_length_le (l := secRow ord mv) (by rw [HSL2.out]; exact Nat.le_refl _)] at st
              have p1 := (st.blk (i := 4) rfl).cell (i := 0) rfl
              have hlo2 := st.lo
              have S7 := Lib.hid st
              have HSL4 := Lib.hid (secL_succ (n := n) (f := f) HMV.out)
              clear st
              go_wp2_with (at_builtin; refine wpList_push_at _ rfl _ _ 22 36 rfl Try.underlying22 (.slice none 0 0) 24 Try.infoS rfl w.heap.size _ _ _ rfl (S7.out.rows (i := 5) rfl) _ rfl rfl (by omega) (by omega) hlo2 ?_)
              intro A8 c8 w8 own8 gr8 hat8
              have st8 := (S7.out.rowPush (i := 5) (j := 6) rfl rfl HSL2.out (by decide) (by decide) own8 gr8 hat8).take 6
              have q1 := (st8.blk (i := 4) rfl).cell (i := 0) rfl
              have f1 := (st8.blk (i := 4) rfl).free 0
              have st9 := st8.blkSet (i := 4) rfl 0 (.slice A8 (r + 1) c8)
              have S9 := Lib.hid (show St w (w8.setCell ⟨w2.heap.size + 1, 0, none⟩ (.slice A8 (r + 1) c8)) (secPs w.heap.size w2.heap.size (w2.heap.size + 1) (.slice (some ⟨b, o, none⟩) N c) t c2 n (r + 1) c8 A2 A8 ord (numTo ord n t) (vals ++ [.slice A6 t c6]) ((secL yss n f).take (r + 1))) from by
                rw [HSL4.out, HORD.out]
                exact st9)
              clear own8 gr8 hat8 st8 st9 p1
              go_wp2
              go_roundw
              case rel => exact ⟨r + 1, _, _, _, by omega, by go_num, S9.out⟩
              case measure => simp [intOf]; omega
        · obtain rfl : r = q := by omega
          rw [List.take_of_length_le (by rw [HSL.out]; exact Nat.le_refl _)] at st
          have z0 := (st.blk (i := 1) rfl).cell (i := 0) rfl
          have f0 := (st.blk (i := 1) rfl).free 0
          have o0 := (st.blk (i := 4) rfl).cell (i := 0) rfl
          have S5 := Lib.hid st
          clear st
          go_wp2
          have st4 := S5.out.blkSet (i := 1) rfl 0 (.slice AR r cR)
          have y0 := (st4.blk (i := 1) rfl).cell (i := 0) rfl
          refine bodyPost_ret (v := .agg #[.slice AR r cR]) (by simp [results, Try.results184, go_sem, y0]) rfl ⟨AR, cR, by rw [HSL.out], ?_, st4.below⟩
          rw [HSL.out]
          exact st4.sep.ownSS (i := 5) rfl
end Go.Proofs.Ytmgoaabeopnopaa
/- spec.SectionAt, FacetAt, VertexFigureAt, FaceAsManiplex, CofaceAsManiplex. -/
namespace Go.Proofs.Ytmgoaabeopnopaa
open Go.RowKit

noncomputable def scC (xss : List (List Int)) (f i k : Int) : Int := if okMan xss = true then (if flagB (flN xss) f = true ∧ 0 ≤ i ∧ i ≤ k ∧ k < xss.length then 0 else 2) else 1
noncomputable def secAt (xss : List (List Int)) (f i k : Nat) : List (List Int) := secL ((xss.drop i).take (k + 1 - i)) (flN xss) f
noncomputable def scR (xss : List (List Int)) (f i k : Int) : List (List Int) := if scC xss f i k = 0 then secAt xss f.toNat i.toNat k.toNat else []
noncomputable def faC (xss : List (List Int)) (f : Int) : Int := if scC xss f 0 0 = 0 then (if xss.length = 1 then 5 else 0) else scC xss f 0 0
noncomputable def faR (xss : List (List Int)) (f : Int) : List (List Int) := if faC xss f = 0 then secAt xss f.toNat 0 (xss.length - 2) else []
noncomputable def vfR (xss : List (List Int)) (f : Int) : List (List Int) := if faC xss f = 0 then secAt xss f.toNat 1 (xss.length - 1) else []
theorem scC_zero {xss : List (List Int)} {f i k : Int} (h : scC xss f i k = 0) : okMan xss = true ∧ flagB (flN xss) f = true ∧ 0 ≤ i ∧ i ≤ k ∧ k < xss.length := by
  unfold scC at h
  split at h
  · rename_i h1
    split at h
    · rename_i h2
      exact ⟨h1, h2⟩
    · simp at h
  · simp at h

end Go.Proofs.Ytmgoaabeopnopaa
/- spec.FaceAsManiplex, CofaceAsManiplex. -/
namespace Go.Proofs.Ytmgoaabeopnopaa
open Go.RowKit

noncomputable def fcC (xss : List (List Int)) (i y s : Int) : Int := if okMan xss = true then (if flagB xss.length i = true then (if idxL (facL xss (flN xss) i.toNat) y < 0 then 2 else (if i = s then 5 else 0)) else 2) else 1
noncomputable def fcF (xss : List (List Int)) (i y s : Int) : Int := if fcC xss i y s = 0 then idxL (facL xss (flN xss) i.toNat) y else 0
theorem fcC_zero {xss : List (List Int)} {i y s : Int} (h : fcC xss i y s = 0) : okMan xss = true ∧ flagB xss.length i = true ∧ 0 ≤ idxL (facL xss (flN xss) i.toNat) y ∧ i ≠ s := by
  unfold fcC at h
  split at h
  · rename_i h1
    split at h
    · rename_i h2
      split at h
      · simp at h
      · rename_i h3
        split at h
        · simp at h
        · rename_i h4
          exact ⟨h1, h2, by omega, h4⟩
    · simp at h
  · simp at h

noncomputable def fmR (xss : List (List Int)) (i y : Int) : List (List Int) := if fcC xss i y 0 = 0 then secAt xss (fcF xss i y 0).toNat 0 (i.toNat - 1) else []
noncomputable def cmC (xss : List (List Int)) (i y : Int) : Int := fcC xss i y ((xss.length : Int) - 1)
noncomputable def cmR (xss : List (List Int)) (i y : Int) : List (List Int) := if cmC xss i y = 0 then secAt xss (fcF xss i y ((xss.length : Int) - 1)).toNat (i.toNat + 1) (xss.length - 1) else []

end Go.Proofs.Ytmgoaabeopnopaa
