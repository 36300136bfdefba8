/- impl.Maniplex.facePoset. -/
import Derived.Test.YtmfddenjemoedaaFp
namespace Go.Proofs.Ytmfddenjemoedaa
open Go.RowKit

theorem own_cap2 {w : World} {base e n c : Nat} {A : Option Addr} {vs : List Value} (h : w.ownsRow base e 1 (.slice A n c) n vs) : n ≤ c ∧ c ≤ 9223372036854775807 := by
  rcases h.2 with ⟨hv, h0⟩ | ⟨g, cap, cur, hv, _, _, h1, h2, _⟩
  · simp only [Value.slice.injEq] at hv
    omega
  · simp only [Value.slice.injEq] at hv
    unfold maxLen at h2
    omega

/-- The rows before e are sorted and without doubles; of the others each still holds the elements below. -/
def CmT (xss : List (List Int)) (n N e : Nat) (rows : List (List Int)) : Prop :=
  ∀ (k : Nat) (r : List Int), rows[k]? = some r → (k < e → r = blwL xss n N k) ∧ (e ≤ k → (∀ x, x ∈ r ↔ BelE xss n N k x) ∧ r.length ≤ 10000)
theorem cmT_step {xss : List (List Int)} {n N e : Nat} {rows : List (List Int)} {r a b : List Int} (h : CmT xss n N e rows) (hr : rows[e]? = some r) (hb : b = blwL xss n N e) : CmT xss n N (e + 1) ((rows.set e a).set e b) := fun k r' hk => by
  rw [List.set_set] at hk
  by_cases hke : k = e
  · subst hke
    rw [List.getElem?_set_self (List.getElem?_eq_some_iff.1 hr).1] at hk
    injection hk with hk
    subst hk
    exact ⟨fun _ => hb, fun h => by omega⟩
  · rw [List.getElem?_set_ne (fun h => hke h.symm)] at hk
    obtain ⟨h1, h2⟩ := h k r' hk
    exact ⟨fun h => h1 (by omega), fun h => h2 (by omega)⟩
theorem cmT_all {xss : List (List Int)} {n N S : Nat} {rows : List (List Int)} (h : CmT xss n N S rows) (hl : rows.length = S) : rows = (List.range S).map (blwL xss n N) := by
  apply List.ext_getElem?
  intro k
  by_cases hk : k < S
  · obtain ⟨r, hr⟩ : ∃ r, rows[k]? = some r := ⟨_, List.getElem?_eq_getElem (by omega)⟩
    rw [hr, (h k r hr).1 hk]
    simp [hk]
  · rw [List.getElem?_eq_none (by omega), List.getElem?_eq_none (by simp; omega)]

set_option maxHeartbeats 6400000 in
set_option maxRecDepth 100000 in
theorem ifp_any {b o c N n c0 : Nat} {A0 : Option Addr} {xss : List (List Int)} (w : World) (hx : xss.length = N) (ha : RdSS w (some ⟨b, o, none⟩) xss) (hsys : okSys n xss = true) (h0 : w.cell? ⟨b, o, none⟩ = some (.slice A0 n c0)) (hpos : 0 < N) (hcap : N ≤ c) (hc63 : c ≤ 9223372036854775807) (hn : 0 < n) (hN5 : N ≤ 5) (hn4 : n ≤ 400) :
    Calls Try.prog 79 #[.agg #[.slice (some ⟨b, o, none⟩) N c]] w (RetP3 w N (rkL xss n N) ((List.range (fstE xss n N)).map (blwL xss n N))) := by
  have HX := Lib.hid hx
  have HA := Lib.hid ha
  have HS := Lib.hid hsys
  have HC0 := Lib.hid h0
  have HCN := Lib.hid (show ∀ i, i < N → 1 ≤ cN xss n i ∧ cN xss n i ≤ n from fun i _ => cn_bd hsys hn)
  obtain ⟨S, hS⟩ : ∃ S, fstE xss n N = S := ⟨_, rfl⟩
  have hSb : S ≤ 2000 := by
    have hh : ∀ j, j ≤ N → fstE xss n j ≤ j * 400 := by
      intro j
      induction j with
      | zero => intro _; simp [fstE]
      | succ j ih => intro hj; have := ih (by omega); have := (HCN.out j (by omega)).2; simp only [fstE]; omega
    have := hh N (Nat.le_refl _)
    omega
  rw [hS]
  have HSS := Lib.hid hS
  have BX0 := Lib.hid ((Bx.start w (.slice (some ⟨b, o, none⟩) N c) 45).al (.cells #[.int .i64 0, .slice none 0 0, .slice none 0 0] 62))
  have Z0 := Lib.hid (by have := Blk.new (w.alloc (.cells #[.slice (some ⟨b, o, none⟩) N c] 45)) #[.int .i64 0, .slice none 0 0, .slice none 0 0] 62; simpa using this)
  have hbc := BX0.out.cell
  have hmk2 := run_make_row' (P := Try.prog) 35 24 (.slice none 0 0) 24 Try.underlying35 Try.infoS rfl .i64 .i64 S (by omega) (by omega)
  clear hx ha hsys h0 hS
  go_enter Try.func79, Try.ntmps79
  go_wp2_with fail
  refine (ifof_any _ HX.out (HA.out.keep BX0.out.below) HS.out (cell_be HC0.out BX0.out.below) hpos hcap hc63 hn hN5 hn4 HCN.out).mono ?_
  rintro e w1 ⟨A, cA, A5, c5, rfl, own, own5, bel⟩
  obtain ⟨faces, hfaces⟩ : ∃ faces, faces = (List.range n).map fun (f : Nat) => fcRow xss n N f := ⟨_, rfl⟩
  have hrl : faces.length = n := by rw [hfaces]; simp
  have hra : ∀ f : Nat, f < n → faces[f]? = some (fcRow xss n N f) := fun f hf => by rw [hfaces]; simp [hf]
  have hkl : (rkL xss n N).length = S := by rw [rkL_len, HSS.out]
  rw [← hfaces] at own ⊢
  rw [hrl] at own ⊢
  rw [hkl] at own5 ⊢
  simp at own own5
  have HRL := Lib.hid hrl
  have HRA := Lib.hid hra
  have HKL := Lib.hid hkl
  have BX1 := Lib.hid (BX0.out.go bel)
  have hlt1 := Z0.out.lt
  have hs1 := bel.size
  have F0 := Lib.hid (show FpS w w1 (w1.alloc (.cells (madeCells #[.slice none 0 0] S) 24)) (.slice (some ⟨b, o, none⟩) N c) (w1.heap.size + 1) n cA S c5 S A A5 faces (rkL xss n N) (List.replicate S []) from
    ⟨BX1.out.al _, (Z0.out.go bel).go (below1 _ _), ownSS_below own (below1 _ _) (Nat.le_refl _), own_below own5 (below1 _ _) (Nat.le_refl _), own_in own5, ownSS_make w1 S _ (by unfold maxLen; omega), by simp at hs1; omega, by simp⟩)
  clear own own5 bel hbc hfaces hrl hra hkl BX0 BX1 Z0 hlt1 hs1
  go_wp2
  clear hmk2
  go_loopw [21] (fun v wr => ∃ (f hi : Nat) (rows : List (List Int)), f ≤ n ∧ v = .int .i64 f ∧ rows.length = S ∧ RowsTo xss n N f 0 rows ∧ FpS w w1 wr (.slice (some ⟨b, o, none⟩) N c) hi n cA S c5 S A A5 faces (rkL xss n N) rows) (fun v _ => n - (intOf v).toNat)
  case atStart => exact ⟨0, _, _, Nat.zero_le _, rfl, by simp, rowsTo_start S, F0.out⟩
  case round =>
    obtain ⟨f, hi, rows, hf, rfl, hrows, hrt, fp⟩ := hrel
    have HROWS := Lib.hid hrows
    have RT := Lib.hid hrt
    have FP := Lib.hid fp
    clear hrows hrt fp F0
    by_cases hfn : f < n
    · obtain ⟨gA, hgA⟩ : ∃ g, A = some ⟨g, 0, none⟩ := own_shape FP.out.fa.choose_spec.1 (by omega)
      subst hgA
      obtain ⟨Ac, cc, hcc, hoc, hic, _⟩ := ownSS_rowval FP.out.fa (HRA.out f hfn)
      rw [fcRow_len] at hcc hoc hic
      have hcap2 := own_cap2 hoc
      have OC := Lib.hid hoc
      have IC := Lib.hid hic
      have fI : (f : Int) < (n : Int) := by omega
      clear hoc hic
      go_wp2
      go_loopw [27] (fun v wi => ∃ (t hi2 : Nat) (rows : List (List Int)), t ≤ N ∧ v = .int .i64 t ∧ rows.length = S ∧ RowsTo xss n N f t rows ∧ FpS w w1 wi (.slice (some ⟨b, o, none⟩) N c) hi2 n cA S c5 S (some ⟨gA, 0, none⟩) A5 faces (rkL xss n N) rows ∧ wi.ownsRow (w.heap.size + 2) 2 1 (.slice Ac N cc) N (ints (fcRow xss n N f))) (fun v _ => N - (intOf v).toNat)
      case atStart => exact ⟨0, hi, rows, Nat.zero_le _, rfl, HROWS.out, RT.out, FP.out, OC.out⟩
      case round =>
        obtain ⟨t, hi2, rows2, ht, rfl, hrows2, hrt2, fp2, hoc2⟩ := hrel
        have HR2 := Lib.hid hrows2
        have RT2 := Lib.hid hrt2
        have FP2 := Lib.hid fp2
        have OC2 := Lib.hid hoc2
        clear hrows2 hrt2 fp2 hoc2 hcc
        by_cases htN : t < N
        · obtain ⟨gc, hgc⟩ := own_shape OC2.out (show 0 < N by omega)
          subst hgc
          obtain ⟨y, hy⟩ : ∃ y, (fcRow xss n N f)[t]? = some y := ⟨_, List.getElem?_eq_getElem (by rw [fcRow_len]; exact htN)⟩
          obtain ⟨e, rfl, _, _, heS⟩ := fc_bd HS.out hfn hy
          rw [HSS.out] at heS
          have hcy := own_cell OC2.out (show (ints (fcRow xss n N f))[t]? = some (.int .i64 (e : Int)) by simp [hy])
          obtain ⟨r, hr⟩ : ∃ r, rows2[e]? = some r := ⟨_, List.getElem?_eq_getElem (by rw [HR2.out]; exact heS)⟩
          have FPd := Lib.hid (FP2.out.go (below_drewN (Below.refl _ _) 1))
          obtain ⟨Ar, cr, hcrd, hor, _, hrow⟩ := ownSS_rowval FPd.out.s hr
          have hcr : wr.cell? ⟨w1.heap.size, e, none⟩ = some (.slice Ar r.length cr) := by simpa using hcrd
          have hrb := (RT2.out e r hr).2
          have htcc : t ≤ cc := by omega
          have htci : (t : Int) ≤ (cc : Int) := by omega
          have hsz2 : w.heap.size + 2 ≤ wr.heap.size := by have := FP2.out.h1; have := FP2.out.lo; have := FP2.out.hi; omega
          have OCd := Lib.hid (own_below OC2.out (below_drewN (Below.refl wr.heap.size wr) 1) (Nat.le_refl _))
          have hus : ∀ (j : Nat) (u : Value), (ints ((fcRow xss n N f).take t))[j]? = some u → (wr.drewN 1).cell? ((⟨gc, 0, none⟩ : Addr).add j) = some u := by
            intro j u hj
            have hj2 : (ints (fcRow xss n N f))[j]? = some u := by
              simp [List.getElem?_take] at hj
              obtain ⟨_, hj⟩ := hj
              simpa using hj
            have := own_cell OCd.out hj2
            have e1 : ((⟨gc, 0, none⟩ : Addr).add j) = ⟨gc, j, none⟩ := by by_cases h : j = 0 <;> simp [Addr.add, h]
            rw [e1]
            exact this
          have hone : ∀ u ∈ ints ((fcRow xss n N f).take t), u.oneCell' = true := by
            intro u hu
            obtain ⟨i, _, rfl⟩ := List.mem_map.1 hu
            rfl
          have hlus : (ints ((fcRow xss n N f).take t)).length = t := by simp [fcRow_len]; omega
          have HUS := Lib.hid hus
          have HONE := Lib.hid hone
          have HLUS := Lib.hid hlus
          have HY := Lib.hid hy
          have HR := Lib.hid hr
          have HROW := Lib.hid hrow
          have HOR := Lib.hid hor
          have HCAT := Lib.hid (show (ints r ++ ints ((fcRow xss n N f).take t)) = ints (r ++ (fcRow xss n N f).take t) from by simp)
          have hw1d : w1.heap.size ≤ (wr.drewN 1).heap.size := by have := FPd.out.lo; have := FPd.out.hi; omega
          have hsm : (r.length + t) * 8 ≤ 140737488355328 := by omega
          have hsm2 : r.length + t ≤ 9223372036854775807 := by omega
          have HLT := Lib.hid (show (r ++ (fcRow xss n N f).take t).length = r.length + t from by simp [fcRow_len]; omega)
          clear hus hone hlus hy hr hrow hor hcrd
          go_wp2
          go_region_law ((refine step_cat_at rfl (.tmp 37) (.tmp 40) 24 2 rfl Try.underlying24 (.int .i64 0) 8 Try.info2 rfl w1.heap.size (.slice Ar r.length cr) r.length (ints r) (by simp [Act.eval]) HOR.out ⟨gc, 0, none⟩ t cc (ints ((fcRow xss n N f).take t)) (by simp [Act.eval]) HLUS.out HUS.out HONE.out hsm hsm2 hw1d ?_; intro A' c' w4 own4 gr4 hat4; obtain ⟨NS, fz, ⟨ux, hux⟩, tu⟩ := ownSS_storerow FPd.out.s (by decide) HR.out FPd.out.hi HROW.out HLT.out (by rw [HCAT.out] at own4; exact own4) gr4 (by rcases hat4 with h | h; exact .inl h; exact .inr (fun b hb => by rw [h] at hb; injection hb with hb; subst hb; exact FPd.out.hi))))
          all_goals
            have FPN := Lib.hid (FPd.out.turn tu NS (Nat.le_of_eq (by simp)))
            have OCN := Lib.hid (tu.own OCd.out IC.out (.inl (Nat.le_refl _)))
            have RTN := Lib.hid (rowsTo_step RT2.out hfn htN hN5 HY.out HR.out)
            clear NS tu own4 gr4 hat4
            go_simp
            go_wp2
            go_roundw
            case rel => exact ⟨t + 1, _, _, by omega, by go_num, by rw [List.length_set]; exact HR2.out, RTN.out, FPN.out, OCN.out⟩
            case measure => simp [intOf]; omega
        · have RTX := Lib.hid (rowsTo_next RT2.out (by omega) (by omega))
          go_wp2
          go_roundw
          case rel => exact ⟨f + 1, _, _, by omega, by go_num, HR2.out, RTX.out, FP2.out⟩
          case measure => simp [intOf]; omega
    · obtain rfl : f = n := by omega
      have RA := Lib.hid (show ∀ (e : Nat) (r : List Int), rows[e]? = some r → (∀ x, x ∈ r ↔ BelE xss f N e x) ∧ r.length ≤ 10000 from fun e r he => ⟨fun x => ((RT.out e r he).1 x).trans (belTo_all (Nat.le_refl _)), by have := (RT.out e r he).2; omega⟩)
      have CM0 := Lib.hid (show CmT xss f N 0 rows from fun k r hk => ⟨fun h => by omega, fun _ => RA.out k r hk⟩)
      clear RT RA
      go_wp2
      go_loopw [47] (fun v wr => ∃ (e hi2 : Nat) (rows3 : List (List Int)), e ≤ S ∧ v = .int .i64 e ∧ rows3.length = S ∧ CmT xss f N e rows3 ∧ FpS w w1 wr (.slice (some ⟨b, o, none⟩) N c) hi2 f cA S c5 S A A5 faces (rkL xss f N) rows3) (fun v _ => S - (intOf v).toNat)
      case atStart => exact ⟨0, hi, rows, Nat.zero_le _, rfl, HROWS.out, CM0.out, FP.out⟩
      case round =>
        obtain ⟨e, hi2, rows3, he, rfl, hr3, hcm, fp3⟩ := hrel
        have HR3 := Lib.hid hr3
        have CM := Lib.hid hcm
        have FP3 := Lib.hid fp3
        clear hr3 hcm fp3 FP CM0
        by_cases heS : e < S
        · obtain ⟨r, hr⟩ : ∃ r, rows3[e]? = some r := ⟨_, List.getElem?_eq_getElem (by rw [HR3.out]; exact heS)⟩
          obtain ⟨Ar, cr, hcr, hor, hir, hrow⟩ := ownSS_rowval FP3.out.s hr
          obtain ⟨hbl, hlr⟩ := (CM.out e r hr).2 (Nat.le_refl _)
          have HBLR := Lib.hid (bl_row HS.out hbl)
          have HRr := Lib.hid hr
          have HOR := Lib.hid hor
          have HIR := Lib.hid hir
          have HROW := Lib.hid hrow
          have eS : (e : Int) < (S : Int) := by omega
          clear hr hor hir hrow hbl
          go_wp2_with fail
          refine (sort_any _ HOR.out (by omega)).mono ?_
          rintro e' w4 ⟨rfl, own4, gr4⟩
          have FP4 := Lib.hid (FP3.out.turn (Turns.of_grown gr4 HIR.out) (ownSS_set FP3.out.s (by decide) HRr.out (sortL_length _) HROW.out gr4 (fun base hb => own_base_of hb own4)) (Nat.le_trans FP3.out.hi gr4.size))
          clear own4 gr4 hcr
          have hr4 : (rows3.set e (sortL r))[e]? = some (sortL r) := List.getElem?_set_self (List.getElem?_eq_some_iff.1 HRr.out).1
          obtain ⟨Ar2, cr2, hcr2, hor2, hir2, hrow2⟩ := ownSS_rowval FP4.out.s hr4
          have HR4 := Lib.hid hr4
          have HOR2 := Lib.hid hor2
          have HROW2 := Lib.hid hrow2
          clear hr4 hor2 hir2 hrow2
          go_wp2_with fail
          refine (compact_all _ HOR2.out (by rw [sortL_length]; omega)).mono ?_
          rintro e' w5 ⟨rfl, own5, gr5⟩
          obtain ⟨NS, fz, ⟨ux, hux⟩, tu⟩ := ownSS_storerow FP4.out.s (by decide) HR4.out FP4.out.hi HROW2.out rfl own5 gr5 (.inl (by rcases Ar2 with _ | ⟨_, _, _ | _⟩ <;> rfl))
          have FP5 := Lib.hid (FP4.out.turn tu NS (Nat.le_of_eq (by simp)))
          have CM5 := Lib.hid (cmT_step (a := sortL r) CM.out HRr.out HBLR.out)
          clear own5 gr5 NS tu hcr2
          go_wp2
          go_roundw
          case rel => exact ⟨e + 1, _, _, by omega, by go_num, by rw [List.length_set, List.length_set]; exact HR3.out, CM5.out, FP5.out⟩
          case measure => simp [intOf]; omega
        · obtain rfl : e = S := by omega
          have EQ := Lib.hid (cmT_all CM.out HR3.out)
          have k0 := FP3.out.k.cell
          go_wp2_with fail
          refine (rank_any _).mono ?_
          rintro e' w5 ⟨rfl, hw5⟩
          have FP5 := Lib.hid (show FpS w w1 w5 (.slice (some ⟨b, o, none⟩) N c) hi2 f cA e c5 e A A5 faces (rkL xss f N) rows3 from by rw [← hw5]; exact FP3.out.go (below1 _ _))
          clear hw5 k0 FP3
          have z0 := FP5.out.z.cell (i := 0) rfl
          have z1 := FP5.out.z.cell (i := 1) rfl
          have z2 := FP5.out.z.cell (i := 2) rfl
          have f0 := FP5.out.z.free 0
          have f1 := FP5.out.z.free 1
          have f2 := FP5.out.z.free 2
          go_wp2
          have Z4 := ((FP5.out.z.set 0 (.int .i64 N)).set 1 (.slice A5 e c5)).set 2 (.slice (some ⟨w1.heap.size, 0, none⟩) e e)
          have y0 := Z4.cell (i := 0) rfl
          have y1 := Z4.cell (i := 1) rfl
          have y2 := Z4.cell (i := 2) rfl
          have T4 : Turns (w.heap.size + 1) (w.heap.size + 2) w5 _ := ((turns_set w5 (w.heap.size + 1) 0 (.int .i64 N)).trans (turns_set _ (w.heap.size + 1) 1 (.slice A5 e c5))).trans (turns_set _ (w.heap.size + 1) 2 (.slice (some ⟨w1.heap.size, 0, none⟩) e e))
          have h1 := FP5.out.h1
          have h2 := FP5.out.lo
          have h3 := FP5.out.hi
          have O5 := T4.own FP5.out.ra FP5.out.rin (.inr (by omega))
          have O6 := ownSS_turns FP5.out.s T4 (.inr (by omega))
          rw [EQ.out] at O6
          have hlen : ((List.range e).map (blwL xss f N)).length = e := by simp
          refine bodyPost_ret (v := .agg #[.int .i64 N, .slice A5 e c5, .slice (some ⟨w1.heap.size, 0, none⟩) e e]) (by simp [results, Try.results79, go_sem, y0, y1, y2]) rfl ⟨A5, c5, some ⟨w1.heap.size, 0, none⟩, e, w1.heap.size, ?_, by omega, by simp; omega, ?_, ?_, ?_, ?_⟩
          · rw [HKL.out, hlen]
          · rw [HKL.out]; exact own_base O5 (by omega)
          · rw [HKL.out]; exact inB_wide FP5.out.rin (by omega) (by omega)
          · rw [hlen]; exact ownSS_wide O6 (Nat.le_refl _) (by simpa using h3)
          · exact T4.below FP5.out.k.below FP5.out.k.below.size (by omega)
end Go.Proofs.Ytmfddenjemoedaa
