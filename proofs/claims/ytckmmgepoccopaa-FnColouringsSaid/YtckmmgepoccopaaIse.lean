/- impl.Maniplex.section. -/
import Derived.Test.YtckmmgepoccopaaSec
import Derived.Test.YtckmmgepoccopaaStm
import Derived.Deep.AppendLies
import Derived.Deep.RegionLaw
import Derived.Deep.DeepMust
namespace Go.Proofs.Ytckmmgepoccopaa
open Go.RowKit

/-- The rows of L as far as r of them are whole; the row r holds x. -/
def rwTo (L : List (List Int)) (q r : Nat) (x : List Int) : List (List Int) := (List.range q).map fun j => if j < r then L.getD j [] else if j = r then x else []
section
variable {L : List (List Int)} {q r : Nat} {x y : List Int}
theorem rwTo_len : (rwTo L q r x).length = q := by simp [rwTo]
theorem rwTo_zero : rwTo L q 0 [] = List.replicate q [] := by
  apply List.ext_getElem?
  intro j
  by_cases hj : j < q
  · simp [rwTo, hj]
  · simp [rwTo, hj]
theorem rwTo_at (hr : r < q) : (rwTo L q r x)[r]? = some x := by simp [rwTo, hr]
theorem rwTo_set (hr : r < q) : (rwTo L q r x).set r y = rwTo L q r y := by
  apply List.ext_getElem?
  intro j
  by_cases hj : r = j
  · subst hj
    rw [List.getElem?_set_self (by rw [rwTo_len]; exact hr), rwTo_at hr]
  · rw [List.getElem?_set_ne hj]
    by_cases hq : j < q
    · simp [rwTo, hq, Ne.symm hj]
    · simp [rwTo, hq]
theorem rwTo_next (hx : L[r]? = some x) : rwTo L q r x = rwTo L q (r + 1) [] := by
  unfold rwTo
  refine List.map_congr_left fun j hj => ?_
  by_cases h1 : j < r
  · rw [if_pos h1, if_pos (by omega)]
  · by_cases h2 : j = r
    · subst h2
      rw [if_neg h1, if_pos rfl, if_pos (by omega), List.getD, hx]
      rfl
    · rw [if_neg h1, if_neg h2, if_neg (by omega)]
      split <;> rfl
theorem rwTo_all (hl : L.length = q) : rwTo L q q x = L := by
  apply List.ext_getElem?
  intro j
  by_cases hj : j < q
  · have hjl : j < L.length := by omega
    simp [rwTo, hj, List.getD, hjl]
  · rw [List.getElem?_eq_none (by rw [rwTo_len]; omega), List.getElem?_eq_none (by omega)]
end

abbrev isePs (H gN gR : Nat) (m : Value) (l c2 n q : Nat) (A2 : Option Addr) (ord nums : List Int) (vals : List Value) (L : List (List Int)) : List Pc :=
  [.blk H #[m] 26, .blk (H + 1) #[.slice none 0 0] 26, .own 2 A2 l c2 (ints ord), .own 2 (some ⟨gN, 0, none⟩) n n (ints nums), .rows 2 28 (some ⟨gR, 0, none⟩) q q vals L]

set_option maxHeartbeats 6400000 in
set_option maxRecDepth 100000 in
theorem isec_any {b o c N n c0 f i k : Nat} {A0 : Option Addr} {xss : List (List Int)} (w : World) (hx : xss.length = N) (ha : RdSS w (some ⟨b, o, none⟩) xss) (hsys : okSys n xss = true) (h0 : w.cell? ⟨b, o, none⟩ = some (.slice A0 n c0)) (hf : f < n) (hik : i ≤ k) (hk : k < N) (hcap : N ≤ c) (_hc63 : c ≤ 9223372036854775807) (hN : N ≤ 16) :
    Calls Try.prog 100 #[.agg #[.slice (some ⟨b, o, none⟩) N c], .int .i64 f, .int .i64 i, .int .i64 k] w (RetM w (secL ((xss.drop i).take (k + 1 - i)) n f)) := by
  obtain ⟨yss, hy⟩ : ∃ y, (xss.drop i).take (k + 1 - i) = y := ⟨_, rfl⟩
  have hys : okSys n yss = true := by rw [← hy]; exact okSys_cut hsys _ _
  have hyl : yss.length = k + 1 - i := by rw [← hy]; simp; omega
  have hya : RdSS w (some ⟨b, o + i, none⟩) yss := by rw [← hy]; exact rdSS_take (rdSS_drop ha)
  obtain ⟨hpa, hfm, hcl⟩ := orb_facts hys hf
  obtain ⟨ord, hord⟩ : ∃ l, orbL yss n f = l := ⟨_, rfl⟩
  have hol : ord.length ≤ n := by rw [← hord]; exact passed_len hpa
  have hn4 := (sys_parts hsys).2.1
  obtain ⟨l, hl⟩ : ∃ l, ord.length = l := ⟨_, rfl⟩
  obtain ⟨q, hq⟩ : ∃ q, k + 1 - i = q := ⟨_, rfl⟩
  have hsl : (secL yss n f).length = q := by rw [secL_len, hyl, hq]
  have hsat : ∀ (r : Nat) (mv : List Int), yss[r]? = some mv → (secL yss n f)[r]? = some (secRow ord mv) := fun r mv h => by rw [← hord]; simp [secL, h]
  rw [hq] at hyl
  rw [hy]
  rw [hord] at hpa hcl
  have HORD := Lib.hid hord
  have HL := Lib.hid hl
  have HSL := Lib.hid hsl
  have HSAT := Lib.hid hsat
  have HPA := Lib.hid hpa
  have HCL := Lib.hid hcl
  have HYA := Lib.hid hya
  have HYL := Lib.hid hyl
  have HYS := Lib.hid hys
  have HC0 := Lib.hid h0
  have hq63 : IntKind.i64.wrap ((k : Int) + 1) = ((k + 1 : Nat) : Int) := (IntWalk.i64_in _ (by omega)).trans (by omega)
  have hq1 : k + 1 - i = q := hq
  have hln : l ≤ n := by omega
  have hpos : 0 < N := by omega
  have hqN : q ≤ 16 := by omega
  have hmkb := run_make_row' (P := Try.prog) 125 4 (.bool false) 1 Try.underlying125 Try.infoB rfl .i64 .i64 n (by omega) (by omega)
  have hmk := run_make_row' (P := Try.prog) 28 2 (.int .i64 0) 8 Try.underlying28 Try.info2 rfl .i64 .i64 n (by omega) (by omega)
  have hmkr := run_make_row' (P := Try.prog) 24 28 (.slice none 0 0) 24 Try.underlying24 Try.infoS rfl .i64 .i64 q (by omega) (by omega)
  have st0 := ((St.start w).addBlk #[.slice (some ⟨b, o, none⟩) N c] 26).addBlk #[.slice none 0 0] 26
  simp at st0
  have S0 := Lib.hid st0
  have hbc := (st0.blk (i := 0) rfl).cell (i := 0) rfl
  clear hx ha hsys h0 hy hys hyl hya hpa hfm hcl hord hl hol hsl hsat hq st0
  go_enter Try.func100, Try.ntmps100
  go_wp2_with fail
  refine (flags_bel _ hpos (cell_be HC0.out S0.out.below)).mono ?_
  rintro e w1 ⟨rfl, bel⟩
  have S1 := Lib.hid (S0.out.go bel)
  clear bel hbc S0
  have hbc := (S1.out.blk (i := 0) rfl).cell (i := 0) rfl
  have HSN := Lib.hid (seen_start w1 n (by omega))
  go_wp2_with fail
  refine (iorb_any w1 _ HYL.out (HYA.out.keep S1.out.below) (below1 _ _) (Nat.le_refl _) (by omega) HYS.out hf (passed_nil n) (closed_nil yss) (by simp) HSN.out).mono ?_
  rintro e w2 ⟨A2, c2, rfl, own2, seen, tu⟩
  rw [HORD.out] at own2 ⊢
  rw [HL.out] at own2 ⊢
  have bel2 : Below w1.heap.size w1 w2 := Turns.below (below1 w1 _) tu (by simp) (Nat.le_refl _)
  have S2 := Lib.hid (S1.out.addOwn bel2 own2 (by simp))
  clear own2 bel2 hbc S1 seen tu HSN
  have hbc := (S2.out.blk (i := 0) rfl).cell (i := 0) rfl
  go_wp2_with fail
  refine (flags_bel _ hpos (cell_be HC0.out S2.out.below)).mono ?_
  rintro e w3 ⟨rfl, bel3⟩
  have st3 := (S2.out.go bel3).addMake (.int .i64 0) n 2 (by unfold maxLen; omega)
  have S3 := Lib.hid st3
  clear bel3 hbc S2 st3
  go_wp2
  clear hmk hmkb
  go_loopw [36] (fun v wr => ∃ j : Nat, j ≤ l ∧ v = .int .i64 j ∧ St w wr [.blk w.heap.size #[.slice (some ⟨b, o, none⟩) N c] 26, .blk (w.heap.size + 1) #[.slice none 0 0] 26, .own 2 A2 l c2 (ints ord), .own 2 (some ⟨w3.heap.size, 0, none⟩) n n (ints (numTo ord n j))] ∧ wr.heap.size = w3.heap.size + 1) (fun v _ => l - (intOf v).toNat)
  case atStart => exact ⟨0, Nat.zero_le _, rfl, by rw [numTo_zero]; simpa [ints] using S3.out, by simp⟩
  case round =>
    obtain ⟨j, hj, rfl, st, hsz⟩ := hrel
    clear S3
    by_cases hjl : j < l
    · obtain ⟨x, hx⟩ : ∃ x, ord[j]? = some x := ⟨_, List.getElem?_eq_getElem (by rw [HL.out]; exact hjl)⟩
      have hxb := HPA.out.1 x (List.mem_of_getElem? hx)
      obtain ⟨y, rfl⟩ := Int.eq_ofNat_of_zero_le hxb.1
      have hyn : y < n := by omega
      obtain ⟨gA, rfl⟩ := own_shape (st.own (i := 2) rfl) (show 0 < l by omega)
      have c1 := own_cell (st.own (i := 2) rfl) (show (ints ord)[j]? = some (.int .i64 (y : Int)) by simp [hx])
      obtain ⟨u, hu⟩ : ∃ u, (ints (numTo ord n j))[y]? = some u := ⟨_, List.getElem?_eq_getElem (by simp [numTo_len]; exact hyn)⟩
      have c3 := own_cell (st.own (i := 3) rfl) hu
      have f3 := (st.own (i := 3) rfl).frozenAt y
      have st3 := st.store (i := 3) rfl y (.int .i64 (j : Int))
      rw [ints_set, numTo_step HPA.out hx] at st3
      have S3 := Lib.hid st3
      have HSZ := Lib.hid hsz
      have yI : (y : Int) < (n : Int) := by omega
      clear st st3 hx hu hxb hsz
      go_wp2
      go_roundw
      case rel => exact ⟨j + 1, by omega, by go_num, S3.out, by simpa using HSZ.out⟩
      case measure => simp [intOf]; omega
    · obtain rfl : j = l := by omega
      obtain ⟨valsR, st4⟩ := st.addRows (below1 _ _) (ownSS_make wr q 28 (by unfold maxLen; omega)) (Nat.le_refl _) (by simp)
      rw [hsz] at st4
      have S4 := Lib.hid st4
      have HSZ := Lib.hid hsz
      clear st st4
      go_wp2
      clear hmkr
      go_loopw [51] (fun v wr => ∃ (r : Nat) (vals : List Value), r ≤ q ∧ v = .int .i64 r ∧ St w wr (isePs w.heap.size w3.heap.size (w3.heap.size + 1) (.slice (some ⟨b, o, none⟩) N c) j c2 n q A2 ord (numTo ord n j) vals (rwTo (secL yss n f) q r []))) (fun v _ => q - (intOf v).toNat)
      case atStart => exact ⟨0, valsR, Nat.zero_le _, rfl, by rw [rwTo_zero]; exact S4.out⟩
      case round =>
        obtain ⟨r, vals, hr, rfl, st⟩ := hrel
        clear S4
        by_cases hrq : r < q
        · obtain ⟨b3, o3, A4, c4, mv, he, hmv, hc, hrd, hms⟩ := HYA.out.row (k := r) (by rw [HYL.out]; exact hrq)
          obtain ⟨rfl, rfl⟩ : b = b3 ∧ o + i = o3 := by simpa using he
          have hml := sys_len HYS.out hmv
          obtain ⟨lm, hlm⟩ : ∃ l, mv.length = l := ⟨_, rfl⟩
          rw [hlm] at hc hms hml
          have hcw := cell_be hc st.below
          have HRD := Lib.hid hrd
          have HLM := Lib.hid hlm
          have S5 := Lib.hid st
          have HMV := Lib.hid hmv
          have hsl2 : (secRow ord mv).length = j := by rw [secRow_len, HL.out]
          have HSL2 := Lib.hid hsl2
          clear st hmv hsl2 hc hrd hlm he
          go_wp2
          clear hcw
          go_loopw [58] (fun v wr => ∃ (t : Nat) (vals : List Value), t ≤ j ∧ v = .int .i64 t ∧ St w wr (isePs w.heap.size w3.heap.size (w3.heap.size + 1) (.slice (some ⟨b, o, none⟩) N c) j c2 n q A2 ord (numTo ord n j) vals (rwTo (secL yss n f) q r ((secRow ord mv).take t)))) (fun v _ => j - (intOf v).toNat)
          case atStart => exact ⟨0, vals, Nat.zero_le _, rfl, S5.out⟩
          case round =>
            obtain ⟨t, vals, ht, rfl, st⟩ := hrel
            clear S5
            by_cases htj : t < j
            · obtain ⟨x, hx⟩ : ∃ x, ord[t]? = some x := ⟨_, List.getElem?_eq_getElem (by rw [HL.out]; exact htj)⟩
              have hxb := HPA.out.1 x (List.mem_of_getElem? hx)
              have hxm := List.mem_of_getElem? hx
              obtain ⟨y, rfl⟩ := Int.eq_ofNat_of_zero_le hxb.1
              have hyn : y < n := by omega
              obtain ⟨gA, rfl⟩ := own_shape (st.own (i := 2) rfl) (show 0 < j by omega)
              have c1 := own_cell (st.own (i := 2) rfl) (show (ints ord)[t]? = some (.int .i64 (y : Int)) by simp [hx])
              obtain ⟨b4, o4, z, rfl, hgz, hcz⟩ := (HRD.out.keep st.below).int (k := y) (by rw [HLM.out]; omega)
              obtain ⟨z, rfl, hz0⟩ := sys_at HYS.out HMV.out hgz
              have hzm : (z : Int) ∈ ord := by
                have := HCL.out mv (List.mem_of_getElem? HMV.out) (y : Int) hxm
                rwa [fz_at hgz] at this
              have hzn : z < n := by have := HPA.out.1 _ hzm; omega
              have hnum := numTo_all (n := n) hzn hzm
              rw [HL.out] at hnum
              have c3 := own_cell (st.own (i := 3) rfl) (show (ints (numTo ord n j))[z]? = some (.int .i64 (idxL ord (z : Int))) by simp [hnum])
              have hsu := secRow_succ (m := mv) hx
              rw [fz_at hgz] at hsu
              obtain ⟨d, hd⟩ : ∃ d, idxL ord (z : Int) = d := ⟨_, rfl⟩
              rw [hd] at hsu c3
              obtain ⟨row, hrow⟩ : ∃ row, (secRow ord mv).take t = row := ⟨_, rfl⟩
              rw [hrow] at hsu st
              have hrl : row.length = t := by rw [← hrow, List.length_take, HSL2.out]; omega
              have HSU := Lib.hid hsu
              have hra : (rwTo (secL yss n f) q r row)[r]? = some row := rwTo_at hrq
              obtain ⟨A1, c1r, hv, ow⟩ := st.rowAt (i := 4) (k := r) rfl hra
              rw [hrl] at hv ow
              have hc1 := own_cell (st.rows (i := 4) rfl) hv
              have hlo := st.lo
              have Sd := Lib.hid (st.go (below_drewN (Below.refl _ _) 1))
              have OWd := Lib.hid (own_below ow (below_drewN (Below.refl _ _) 1) (Nat.le_refl _))
              have HRA := Lib.hid hra
              have HV := Lib.hid (show vals[r]? = some (Value.slice A1 row.length c1r) by rw [hrl]; exact hv)
              have HCAT := Lib.hid (show ints (row ++ [d]) = ints row ++ [.int .i64 d] by simp)
              have HLEN := Lib.hid (show (row ++ [d]).length = t + 1 by simp [hrl])
              have HRL := Lib.hid hrl
              obtain ⟨i0, hi0, hz0', hz1, hz2⟩ := info_parts Try.info2
              have hnews : ∀ (j : Nat) (u : Value), ([.int .i64 d] : List Value)[j]? = some u → ((wr.drewN 1).alloc (.cells #[.int .i64 d] 2)).cell? ((⟨wr.heap.size, 0, none⟩ : Addr).add j) = some u := by
                intro j y hj
                match j, hj with
                | 0, hj =>
                  simp at hj
                  subst hj
                  have := (Blk.new (wr.drewN 1) #[.int .i64 d] 2).cell (i := 0) rfl
                  simpa [Addr.add] using this
              have hone : ∀ u ∈ ([.int .i64 d] : List Value), u.oneCell' = true := by
                intro y hy
                simp at hy
                subst hy
                rfl
              have HNEWS := Lib.hid hnews
              have HONE := Lib.hid hone
              have h63 : t + 1 ≤ maxLen := by unfold maxLen; omega
              have hc3 := cell_al hc1 (.cells #[.int .i64 d] 2)
              have zI : (z : Int) < (n : Int) := by omega
              have yI : (y : Int) < (lm : Int) := by omega
              have rI : (r : Int) < (q : Int) := by omega
              clear st hx hxb hxm hgz hnum hsu hzm hra hv ow hnews hone hd hrow hrl
              go_wp2
              go_region_law ((refine step_append_lies _ (by rfl) _ _ 28 (by rfl) w.heap.size 2 i0 (.int .i64 0) 1 8 Try.underlying28 hi0 hz0' hz1 hz2 (by rfl) (by decide) (.slice A1 t c1r) t _ (by rfl) (OWd.out.alloc _) ⟨wr.heap.size, 0, none⟩ 1 1 [.int .i64 d] (by rfl) (by rfl) HNEWS.out HONE.out (by omega) h63 (by omega) (by simp; omega) (wr.heap.size + 1) (by simp) ?_; intro gg cap w4 own4 gr4 hat4 hlt4; obtain ⟨NS, fz, cl⟩ := Sd.out.rowTurn (i := 4) rfl (by decide) HRA.out HV.out (below1 _ _) HLEN.out (by rw [HCAT.out]; exact own4) (by rw [HRL.out]; exact gr4) (by rw [HRL.out]; rcases hat4 with h | h; exact .inl h.symm; exact .inr (fun b hb => by simp [Value.ownBlock] at hb; show wr.heap.size ≤ b; omega)); rw [HRL.out] at cl))
              all_goals
                have S6 := Lib.hid (show St w (w4.setCell ⟨w3.heap.size + 1, r, none⟩ (.slice (some ⟨gg, 0, none⟩) (t + 1) cap)) (isePs w.heap.size w3.heap.size (w3.heap.size + 1) (.slice (some ⟨b, o, none⟩) N c) j c2 n q (some ⟨gA, 0, none⟩) ord (numTo ord n j) (vals.set r (.slice (some ⟨gg, 0, none⟩) (t + 1) cap)) (rwTo (secL yss n f) q r ((secRow ord mv).take (t + 1)))) from by
                  rw [HSU.out, ← rwTo_set hrq]
                  exact NS)
                clear NS own4 gr4 hat4
                go_wp2
                go_roundw
                case rel => exact ⟨t + 1, _, by omega, by go_num, S6.out⟩
                case measure => simp [intOf]; omega
            · obtain rfl : t = j := by omega
              rw [List.take_of_length_le (l := secRow ord mv) (by rw [HSL2.out]; exact Nat.le_refl _), rwTo_next (HSAT.out _ _ HMV.out)] at st
              have S7 := Lib.hid st
              clear st
              go_wp2
              go_roundw
              case rel => exact ⟨r + 1, _, by omega, by go_num, S7.out⟩
              case measure => simp [intOf]; omega
        · obtain rfl : r = q := by omega
          rw [rwTo_all HSL.out] at st
          have z0 := (st.blk (i := 1) rfl).cell (i := 0) rfl
          have f0 := (st.blk (i := 1) rfl).free 0
          have S5 := Lib.hid st
          clear st
          go_wp2
          have st4 := S5.out.blkSet (i := 1) rfl 0 (.slice (some ⟨w3.heap.size + 1, 0, none⟩) r r)
          have y0 := (st4.blk (i := 1) rfl).cell (i := 0) rfl
          refine bodyPost_ret (v := .agg #[.slice (some ⟨w3.heap.size + 1, 0, none⟩) r r]) (by simp [results, Try.results100, go_sem, y0]) rfl ⟨some ⟨w3.heap.size + 1, 0, none⟩, r, by rw [HSL.out], ?_, st4.below⟩
          rw [HSL.out]
          exact st4.sep.ownSS (i := 4) rfl
end Go.Proofs.Ytckmmgepoccopaa
