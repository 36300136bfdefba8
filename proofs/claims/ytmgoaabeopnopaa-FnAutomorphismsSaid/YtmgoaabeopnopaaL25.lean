import Derived.Test.YtmgoaabeopnopaaL21
import Derived.Test.YtmgoaabeopnopaaAe
import Derived.Test.YtmgoaabeopnopaaL8
import Derived.Test.YtmgoaabeopnopaaL9
import Derived.Lib.SliceRun
import Derived.Test.YtmgoaabeopnopaaIdn
import Derived.StillTailTactics
/- FlagOrbits and IsRegular: plain facts and walks, impl's and the spec's. -/
namespace Go.Proofs.Ytmgoaabeopnopaa
open Go.RowKit

noncomputable def fobR (xss : List (List Int)) : List Int := if okMan xss then labL (autL xss) (flN xss) else []
noncomputable def irrB (xss : List (List Int)) : Bool := okMan xss && decide ((autL xss).length = flN xss)
theorem fobR_le (xss : List (List Int)) : (fobR xss).length ≤ 1048576 := by
  unfold fobR
  split
  · rename_i h
    have := okMan_f4 h
    rw [labL_length]
    omega
  · simp
section
variable {xss : List (List Int)}
theorem autTo_full {n : Nat} : ∀ k, (autTo xss n k).length = k ↔ ∀ q, q < k → (isoL xss xss n q).isSome = true
  | 0 => by simp [autTo]
  | k + 1 => by
    have ih := autTo_full (n := n) k
    have hle := autTo_len (xss := xss) (n := n) k
    rw [autTo]
    cases h : isoL xss xss n k with
    | none =>
      simp only
      constructor
      · intro h1; omega
      · intro h1
        have := h1 k (by omega)
        rw [h] at this
        cases this
    | some L =>
      simp only [List.length_append, List.length_cons, List.length_nil]
      constructor
      · intro h1 q hq
        rcases Nat.lt_succ_iff_lt_or_eq.1 hq with h2 | rfl
        · exact ih.1 (by omega) q h2
        · rw [h]; rfl
      · intro h1
        rw [ih.2 fun q hq => h1 q (by omega)]
theorem same0 (hm : IsMan xss) {q : Nat} (hq : q < flN xss) : SameF xss 0 q ↔ (isoL xss xss (flN xss) q).isSome = true := by
  have hn : 0 < flN xss := by omega
  constructor
  · rintro ⟨L, hL, he⟩
    rw [isoL_some hm.sys rfl hn (hm.all hn) ((aut_iff hm).1 hL) he]
    rfl
  · intro h
    obtain ⟨L, hL⟩ := Option.isSome_iff_exists.1 h
    have := isoL_hom hL
    exact ⟨L, (aut_iff hm).2 this.1, this.2⟩
theorem full_iff (hm : IsMan xss) : (autL xss).length = flN xss ↔ ∀ q, q < flN xss → SameF xss 0 q := by
  rw [autL, autTo_full]
  exact ⟨fun h q hq => (same0 hm hq).2 (h q hq), fun h q hq => (same0 hm hq).1 (h q hq)⟩
theorem one_iff (hm : IsMan xss) : (orbsTo (autL xss) (flN xss) (flN xss)).length = 1 ↔ ∀ q, q < flN xss → SameF xss 0 q := by
  have hn : 0 < flN xss := by have := hm.f2; omega
  have hfirst : ∀ k, 0 < k → k ≤ flN xss → (orbsTo (autL xss) (flN xss) k)[0]? = some (orbL (autL xss) (flN xss) ((0 : Nat) : Int)) := by
    intro k
    induction k with
    | zero => intro h; omega
    | succ k ih =>
      intro _ hk
      rcases Nat.eq_zero_or_pos k with rfl | hk0
      · rw [orbsTo_out (by simp [orbsTo])]
        simp [orbsTo]
      · have h1 := ih hk0 (by omega)
        by_cases hin : (k : Int) ∈ (orbsTo (autL xss) (flN xss) k).flatten
        · rw [orbsTo_in hin]; exact h1
        · rw [orbsTo_out hin, List.getElem?_append_left (List.getElem?_eq_some_iff.1 h1).1]; exact h1
  have hf := hfirst (flN xss) hn (Nat.le_refl _)
  constructor
  · intro h1 q hq
    have hin := (Big.orbsTo_facts (aut_big hm) (flN xss) (Nat.le_refl _)).2.2.2 q hq
    obtain ⟨o, ho, hqo⟩ := List.mem_flatten.1 hin
    obtain ⟨i, hi, he⟩ := List.mem_iff_getElem.1 ho
    have : i = 0 := by omega
    subst this
    rw [List.getElem?_eq_getElem hi, he] at hf
    injection hf with hf
    subst hf
    exact (aorb_mem hm hn).1 hqo
  · intro h
    have : ∀ k, 0 < k → k ≤ flN xss → (orbsTo (autL xss) (flN xss) k).length = 1 := by
      intro k
      induction k with
      | zero => intro h; omega
      | succ k ih =>
        intro _ hk
        rcases Nat.eq_zero_or_pos k with rfl | hk0
        · rw [orbsTo_out (by simp [orbsTo])]
          simp [orbsTo]
        · rw [orbsTo_in ((aorbs_mem hm (by omega) k (by omega)).2 ⟨0, hk0, h k (by omega)⟩)]
          exact ih hk0 (by omega)
    exact this _ hn (Nat.le_refl _)
theorem regular_iff (hm : IsMan xss) : (orbsTo (autL xss) (flN xss) (flN xss)).length = 1 ↔ (autL xss).length = flN xss := (one_iff hm).trans (full_iff hm).symm
end

set_option maxHeartbeats 3200000 in
set_option maxRecDepth 8000 in
theorem sorbits_any {A : Option Addr} {c N : Nat} {xss : List (List Int)} (w : World) (hm : okMan xss = true) (hx : xss.length = N) (ha : RdSS w A xss) :
    Calls Try.prog 136 #[.agg #[.slice A N c]] w (RetN w (labL (autL xss) (flN xss)) (flN xss)) := by
  have hman := okMan_iff.1 hm
  have hpos := hman.pos hx
  obtain ⟨b, o, A0, c0, rfl, hc0⟩ := man_row0 hman ha
  have hbig := aut_big hman
  have hal := autL_len xss
  have hn4 := hman.f4
  obtain ⟨n, hn⟩ : ∃ n, flN xss = n := ⟨_, rfl⟩
  rw [hn] at hc0 hbig hal hn4 ⊢
  have HX := Lib.hid hx
  have HA := Lib.hid ha
  have HM := Lib.hid hm
  have HC0 := Lib.hid hc0
  have HBIG := Lib.hid hbig
  have st0 := (St.start w).addBlk #[.slice (some ⟨b, o, none⟩) N c] 27
  have S := Lib.hid (st0.go (below_drewN (Below.refl _ _) 1))
  have x0 := (st0.blk (i := 0) rfl).cell (i := 0) rfl
  clear st0 hx ha hm hc0 hbig hman hn
  go_enter Try.func136, Try.ntmps136
  go_wp2
  go_region_law ((first
    | (go_simp; go_at_call 87
       refine (sFlags_bel _ hpos (cell_be HC0.out S.out.below)).mono ?_
       rintro e wa ⟨rfl, belq⟩
       have Sa := Lib.hid (S.out.go belq)
       have xa := (Sa.out.blk (i := 0) rfl).cell (i := 0) rfl
       clear belq)
    | (go_simp; go_at_call 121
       refine (sauts_any _ HM.out HX.out (HA.out.keep Sa.out.below)).mono ?_
       rintro e wb ⟨A2, m, c2, rfl, hm2, own, bel⟩
       have Sb := Lib.hid (Sa.out.go bel)
       have xb := (Sb.out.blk (i := 0) rfl).cell (i := 0) rfl
       have OWN := Lib.hid own
       have HM2 := Lib.hid hm2
       have hm4 : m ≤ 1048576 := by omega
       clear bel own hm2)
    | (go_simp; go_at_call 86
       refine (Big.sorbs_any (n := n) _ HM2.out (ownSS_rd OWN.out) hm4 HBIG.out).mono ?_
       rintro e wc ⟨A3, c3, rfl, own3, bel3⟩
       have Sc := Lib.hid (Sb.out.go bel3)
       have OW3 := Lib.hid (own_base own3 Sb.out.lo)
       clear own3 bel3)))
  all_goals
    go_wp2
    go_ret
    exact ⟨A3, c3, rfl, OW3.out, Sc.out.below⟩
end Go.Proofs.Ytmgoaabeopnopaa
/- The numbers of the orbits of flags, and to which orbits moves lead them. Plain facts. -/
namespace Go.Proofs.Ytmgoaabeopnopaa
open Go.RowKit

section
variable {xss : List (List Int)} {f p q : Nat} {g : List Int}
/-- How many orbits there are. -/
noncomputable def ocn (xss : List (List Int)) : Nat := (orbsTo (autL xss) (flN xss) (flN xss)).length
noncomputable def oL (xss : List (List Int)) : List Int := labL (autL xss) (flN xss)
theorem oL_len : (oL xss).length = flN xss := labL_length _ _
theorem oL_ok (hm : IsMan xss) {i : Nat} {o : List Int} (ho : (orbsTo (autL xss) (flN xss) (flN xss))[i]? = some o) (hp : (p : Int) ∈ o) : (oL xss)[p]? = some (i : Int) := by
  have hpa := (Big.orbsTo_facts (aut_big hm) (flN xss) (Nat.le_refl _)).1
  have hpr := hpa.1 _ (List.mem_flatten.2 ⟨o, List.mem_of_getElem? ho, hp⟩)
  have hex : ∃ x ∈ orbsTo (autL xss) (flN xss) (flN xss), decide ((p : Int) ∈ x) = true := ⟨o, List.mem_of_getElem? ho, by simpa using hp⟩
  have hlt := List.findIdx_lt_length_of_exists hex
  have hat := List.findIdx_getElem (w := hlt)
  have hat : (p : Int) ∈ (orbsTo (autL xss) (flN xss) (flN xss))[(orbsTo (autL xss) (flN xss) (flN xss)).findIdx fun x => decide ((p : Int) ∈ x)] := by simpa using hat
  have e := flat_idx hpa.2 (List.getElem?_eq_getElem hlt) ho hat hp
  unfold oL labL
  rw [List.getElem?_map, List.getElem?_range (by omega)]
  simp only [Option.map_some]
  rw [e]
theorem oL_at (hm : IsMan xss) (hf : f < flN xss) : ∃ j : Nat, j < ocn xss ∧ (oL xss)[f]? = some (j : Int) := by
  obtain ⟨i, o, ho, hp⟩ := labA_has hm (f := flN xss) (Nat.le_refl _) hf
  exact ⟨i, (List.getElem?_eq_some_iff.1 ho).1, oL_ok hm ho hp⟩
theorem oL_same (hm : IsMan xss) (hp : p < flN xss) (hq : q < flN xss) : fz (oL xss) p = fz (oL xss) q ↔ SameF xss p q := by
  obtain ⟨i, o, ho, hpo⟩ := labA_has hm (f := flN xss) (Nat.le_refl _) hp
  obtain ⟨j, o', ho', hqo⟩ := labA_has hm (f := flN xss) (Nat.le_refl _) hq
  rw [fz_at (oL_ok hm ho hpo), fz_at (oL_ok hm ho' hqo), ← orb_idx hm (Nat.le_refl _) hp hq ho hpo]
  constructor
  · intro h
    have : i = j := by omega
    subst this
    rw [ho] at ho'
    injection ho' with ho'
    rw [ho']
    exact hqo
  · intro h
    have := flat_idx (Big.orbsTo_facts (aut_big hm) (flN xss) (Nat.le_refl _)).1.2 ho ho' h hqo
    omega
/-- Each number is met. -/
theorem oL_onto (hm : IsMan xss) {j : Nat} (hj : j < ocn xss) : ∃ f, f < flN xss ∧ (oL xss)[f]? = some (j : Int) := by
  have hall : ∀ k, k ≤ flN xss → ∀ (i : Nat) (o : List Int), (orbsTo (autL xss) (flN xss) k)[i]? = some o → ∃ r : Nat, r < flN xss ∧ (r : Int) ∈ o := by
    intro k
    induction k with
    | zero => intro _ i o h; simp [orbsTo] at h
    | succ k ih =>
      intro hk i o h
      by_cases hin : (k : Int) ∈ (orbsTo (autL xss) (flN xss) k).flatten
      · rw [orbsTo_in hin] at h
        exact ih (by omega) i o h
      · rw [orbsTo_out hin] at h
        rcases get_snoc' h with h1 | h1
        · exact ih (by omega) i o h1
        · subst h1
          exact ⟨k, by omega, (aorb_mem hm (by omega)).2 (sameF_refl hm (by omega))⟩
  have ho := List.getElem?_eq_getElem (l := orbsTo (autL xss) (flN xss) (flN xss)) hj
  obtain ⟨r, hr, hro⟩ := hall _ (Nat.le_refl _) j _ ho
  exact ⟨r, hr, oL_ok hm ho hro⟩
theorem oL_in (hm : IsMan xss) : ∀ x ∈ oL xss, 0 ≤ x ∧ x < (ocn xss : Int) := by
  intro x hx
  obtain ⟨f, hf, he⟩ := List.mem_iff_getElem.1 hx
  rw [oL_len] at hf
  obtain ⟨j, hj, hx⟩ := oL_at hm hf
  rw [List.getElem?_eq_getElem (by rw [oL_len]; exact hf), he] at hx
  injection hx with hx
  omega
theorem ocn_le (hm : IsMan xss) : ocn xss ≤ flN xss := (Big.orbsTo_facts (aut_big hm) (flN xss) (Nat.le_refl _)).2.2.1
theorem ocn_pos (hm : IsMan xss) : 0 < ocn xss := by
  obtain ⟨j, hj, _⟩ := oL_at hm (f := 0) (by have := hm.f2; omega)
  omega
theorem grt_fold : ∀ (l : List Int) (a b : Int), a ≤ b → (∀ x ∈ l, x < b) → (a = b ∨ (b - 1) ∈ l) → l.foldl (fun a x => if a ≤ x then x + 1 else a) a = b
  | [], a, b, _, _, h => by
    rcases h with h | h
    · exact h
    · simp at h
  | x :: l, a, b, hab, hx, h => by
    rw [List.foldl_cons]
    have hxb := hx x (by simp)
    refine grt_fold l _ b ?_ (fun y hy => hx y (by simp [hy])) ?_
    · split <;> omega
    · rcases h with h | h
      · left
        rw [if_neg (by omega)]; exact h
      · rcases List.mem_cons.1 h with h1 | h1
        · left
          split <;> omega
        · exact .inr h1
theorem oL_grt (hm : IsMan xss) : grtL (oL xss) = (ocn xss : Int) := by
  refine grt_fold _ 0 _ (by omega) (fun x hx => (oL_in hm x hx).2) (.inr ?_)
  have hp := ocn_pos hm
  obtain ⟨f, hf, he⟩ := oL_onto hm (j := ocn xss - 1) (by omega)
  have := List.mem_of_getElem? he
  rwa [show ((ocn xss - 1 : Nat) : Int) = (ocn xss : Int) - 1 by omega] at this
/-- Moves lead flags of one orbit to flags of one orbit. -/
theorem same_move (hm : IsMan xss) (hg : g ∈ xss) (hp : p < flN xss) (h : SameF xss p q) {a b : Nat} (ha : fz g p = (a : Int)) (hb : fz g q = (b : Int)) : SameF xss a b := by
  obtain ⟨L, hL, he⟩ := h
  obtain ⟨i, hi, hgi⟩ := List.mem_iff_getElem.1 hg
  have hgs : xss[i]? = some g := by rw [List.getElem?_eq_getElem hi, hgi]
  have := ((aut_iff hm).1 hL).mv i g g hgs hgs p hp
  rw [ha, he, hb] at this
  exact ⟨L, hL, this⟩
/-- To which orbits a move leads the orbits. -/
noncomputable def stRow (xss : List (List Int)) (g : List Int) : List Int := (List.range (ocn xss)).map fun (o : Nat) => fz (oL xss) (fz g (idxL (oL xss) (o : Int)))
noncomputable def stL (xss : List (List Int)) : List (List Int) := xss.map (stRow xss)
theorem stRow_len : (stRow xss g).length = ocn xss := by simp [stRow]
theorem stL_len : (stL xss).length = xss.length := by simp [stL]
theorem stRow_at (hm : IsMan xss) (hg : g ∈ xss) (hf : f < flN xss) {j : Nat} (hj : (oL xss)[f]? = some (j : Int)) : (stRow xss g)[j]? = some (fz (oL xss) (fz g f)) := by
  have hjl : j < ocn xss := by have := (oL_in hm _ (List.mem_of_getElem? hj)).2; omega
  have hi := fz_idx (List.mem_of_getElem? hj)
  obtain ⟨a, ha⟩ := Int.eq_ofNat_of_zero_le hi.1
  rw [oL_len] at hi
  have han : a < flN xss := by omega
  have hgf := sys_img hm.sys hg (x := (f : Int)) (by omega) (by omega)
  have hga := sys_img hm.sys hg (x := (a : Int)) (by omega) (by omega)
  obtain ⟨u, hu⟩ := Int.eq_ofNat_of_zero_le hgf.1
  obtain ⟨v, hv⟩ := Int.eq_ofNat_of_zero_le hga.1
  have hs : SameF xss a f := by
    rw [← oL_same hm han hf, fz_at hj, ← ha]
    exact hi.2.2
  have h2 := (oL_same hm (by omega) (by omega)).2 (same_move hm hg han hs hv hu)
  unfold stRow
  rw [List.getElem?_map, List.getElem?_range hjl]
  simp only [Option.map_some]
  rw [ha, hv, hu, h2]
/-- What the row holds when the flags below f are done. -/
def StR (xss : List (List Int)) (g : List Int) (f : Nat) (D : List Int) : Prop := D.length = ocn xss ∧ ∀ k : Nat, k < f → ∀ j : Nat, (oL xss)[k]? = some (j : Int) → D[j]? = some (fz (oL xss) (fz g k))
theorem stR_start : StR xss g 0 (List.replicate (ocn xss) 0) := ⟨by simp, fun k hk => by omega⟩
theorem stR_step {D : List Int} {j : Nat} (hm : IsMan xss) (hg : g ∈ xss) (hf : f < flN xss) (h : StR xss g f D) (hj : (oL xss)[f]? = some (j : Int)) : StR xss g (f + 1) (D.set j (fz (oL xss) (fz g f))) := by
  have hjl : j < ocn xss := by have := (oL_in hm _ (List.mem_of_getElem? hj)).2; omega
  refine ⟨by simp [h.1], fun k hk i hi => ?_⟩
  by_cases e : j = i
  · subst e
    rw [List.getElem?_set_self (by rw [h.1]; exact hjl)]
    have h1 := stRow_at hm hg hf hj
    have h2 := stRow_at hm hg (show k < flN xss by omega) hi
    rw [h1] at h2
    exact h2
  · rw [List.getElem?_set_ne e]
    rcases Nat.lt_succ_iff_lt_or_eq.1 hk with h1 | rfl
    · exact h.2 k h1 i hi
    · rw [hj] at hi; injection hi with hi; omega
theorem stR_done {D : List Int} (hm : IsMan xss) (hg : g ∈ xss) (h : StR xss g (flN xss) D) : D = stRow xss g := by
  apply List.ext_getElem?
  intro j
  by_cases hj : j < ocn xss
  · obtain ⟨f, hf, he⟩ := oL_onto hm hj
    rw [h.2 f hf j he, stRow_at hm hg hf he]
  · rw [List.getElem?_eq_none (by rw [h.1]; omega), List.getElem?_eq_none (by rw [stRow_len]; omega)]
/-- Chiral: two orbits, and each move leads the one to the other. -/
theorem chi_iff (hm : IsMan xss) : (∀ r ∈ stL xss, r = [1, 0]) ↔ ocn xss = 2 ∧ ∀ g ∈ xss, ∀ f, f < flN xss → fz (oL xss) (fz g f) ≠ fz (oL xss) f := by
  have hpos : 0 < xss.length := by have := hm.r1; omega
  constructor
  · intro h
    have hc : ocn xss = 2 := by
      have := h _ (List.mem_map.2 ⟨xss[0], List.getElem_mem hpos, rfl⟩)
      have hl := congrArg List.length this
      rw [stRow_len] at hl
      exact hl
    refine ⟨hc, fun g hg f hf => ?_⟩
    have hr := h _ (List.mem_map.2 ⟨g, hg, rfl⟩)
    obtain ⟨j, hj, hjo⟩ := oL_at hm hf
    have h1 := stRow_at hm hg hf hjo
    rw [hr] at h1
    rw [fz_at hjo]
    rcases (show j = 0 ∨ j = 1 by omega) with rfl | rfl
    · simp at h1; omega
    · simp at h1; omega
  · rintro ⟨hc, hd⟩ r hr
    obtain ⟨g, hg, rfl⟩ := List.mem_map.1 hr
    have key : ∀ j : Nat, j < 2 → (stRow xss g)[j]? = some (1 - (j : Int)) := by
      intro j hj
      obtain ⟨f, hf, he⟩ := oL_onto hm (j := j) (by omega)
      rw [stRow_at hm hg hf he]
      have h1 := hd g hg f hf
      rw [fz_at he] at h1
      have hgf := sys_img hm.sys hg (x := (f : Int)) (by omega) (by omega)
      obtain ⟨u, hu⟩ := Int.eq_ofNat_of_zero_le hgf.1
      obtain ⟨i, hi, hio⟩ := oL_at hm (f := u) (by omega)
      rw [hu, fz_at hio] at h1 ⊢
      congr 1
      omega
    apply List.ext_getElem?
    intro j
    by_cases hj : j < 2
    · rw [key j hj]
      rcases (show j = 0 ∨ j = 1 by omega) with rfl | rfl <;> rfl
    · rw [List.getElem?_eq_none (by rw [stRow_len, hc]; omega), List.getElem?_eq_none (by simp; omega)]
end
noncomputable def stR6 (xss : List (List Int)) : List (List Int) := if okMan xss then stL xss else []
theorem stR6_le (xss : List (List Int)) : (stR6 xss).length ≤ 1048576 ∧ ∀ xs ∈ stR6 xss, (xs.length : Int) ≤ 1048576 := by
  unfold stR6
  split
  · rename_i h
    have hm := okMan_iff.1 h
    have h5 := hm.r5
    have h4 := hm.f4
    have := ocn_le hm
    refine ⟨by rw [stL_len]; omega, fun xs hx => ?_⟩
    obtain ⟨g, _, rfl⟩ := List.mem_map.1 hx
    rw [stRow_len]
    omega
  · simp
noncomputable def chB (xss : List (List Int)) : Bool := okMan xss && @decide (∀ r ∈ stL xss, r = [1, 0]) (Classical.propDecidable _)
end Go.Proofs.Ytmgoaabeopnopaa
/- Automorphisms are a group that commutes with the moves; their number times that of the orbits of flags is the number of flags. Plain facts. -/
namespace Go.Proofs.Ytmgoaabeopnopaa
open Go.RowKit

section
variable {xss : List (List Int)} {n p q : Nat} {L L' M : List Int}
/-- Two automorphisms that agree at one flag are equal. -/
theorem aut_uniq (hm : IsMan xss) (h : L ∈ autL xss) (h' : L' ∈ autL xss) (hp : p < flN xss) (he : fz L p = fz L' p) : L = L' := by
  have hL := (aut_iff hm).1 h
  have hL' := (aut_iff hm).1 h'
  have hf := hm.f2
  have hS : ∀ z : Int, z ∈ ((List.range (flN xss)).filter fun k : Nat => fz L k == fz L' k).map (fun k : Nat => (k : Int)) ↔ ∃ k : Nat, k < flN xss ∧ z = (k : Int) ∧ fz L k = fz L' k := fun z => by
    simp only [List.mem_map, List.mem_filter, List.mem_range, beq_iff_eq]
    exact ⟨fun ⟨k, ⟨h1, h2⟩, h3⟩ => ⟨k, h1, h3.symm, h2⟩, fun ⟨k, h1, h3, h2⟩ => ⟨k, ⟨h1, h2⟩, h3.symm⟩⟩
  have hcl : Closed xss (((List.range (flN xss)).filter fun k : Nat => fz L k == fz L' k).map fun k : Nat => (k : Int)) := by
    intro g hg x hx
    obtain ⟨k, hk, rfl, he⟩ := (hS x).1 hx
    obtain ⟨i, hi, hgi⟩ := List.mem_iff_getElem.1 hg
    have h1 : xss[i]? = some g := by rw [List.getElem?_eq_getElem hi, hgi]
    have hr := (sys_parts hm.sys).2.2.2 g hg
    have h2 := fz_in (n := flN xss) (by have := hr.1; omega) hr.2 (x := (k : Int)) (by omega) (by omega)
    obtain ⟨j, hj⟩ := Int.eq_ofNat_of_zero_le h2.1
    refine (hS _).2 ⟨j, by omega, hj, ?_⟩
    rw [← hj, hL.mv i g g h1 h1 k hk, hL'.mv i g g h1 h1 k hk, he]
  have h0 := orb_sub (n := flN xss) hcl ((hS _).2 ⟨p, hp, rfl, he⟩) ((0 : Nat) : Int) (mem_all (hm.all hp) (orb_passed hm.sys hp) (by omega))
  obtain ⟨k, _, hk, he0⟩ := (hS _).1 h0
  have : k = 0 := by omega
  subst this
  exact hom_uniq hm.sys rfl (by omega) (hm.all (by omega)) hL hL' he0
theorem autTo_nodup : ∀ k, (autTo xss n k).Nodup
  | 0 => by simp [autTo]
  | k + 1 => by
    have ih := autTo_nodup k
    rw [autTo]
    split
    · rename_i L hL
      refine List.nodup_append.2 ⟨ih, by simp, fun a ha b hb hab => ?_⟩
      simp at hb
      subst hb
      subst hab
      obtain ⟨q, hq, h3⟩ := autTo_mem ha
      have h1 := (isoL_hom h3).2
      have h2 := (isoL_hom hL).2
      omega
    · exact ih
theorem autL_nodup : (autL xss).Nodup := autTo_nodup _
theorem aut_img (hm : IsMan xss) (h : L ∈ autL xss) (hp : p < flN xss) : ∃ q : Nat, q < flN xss ∧ fz L p = (q : Int) := by
  have := ((aut_iff hm).1 h).im p hp
  obtain ⟨q, hq⟩ := Int.eq_ofNat_of_zero_le this.1
  exact ⟨q, by omega, hq⟩
/-- As many automorphisms times orbits as flags. -/
theorem aut_count (hm : IsMan xss) : (autL xss).length * ocn xss = flN xss := by
  have hex : ∀ j : Nat, ∃ f : Nat, j < ocn xss → f < flN xss ∧ (oL xss)[f]? = some (j : Int) := fun j => by
    by_cases hj : j < ocn xss
    · obtain ⟨f, h1, h2⟩ := oL_onto hm hj
      exact ⟨f, fun _ => ⟨h1, h2⟩⟩
    · exact ⟨0, fun h => absurd h hj⟩
  obtain ⟨rep, hrep⟩ : ∃ rep : Nat → Nat, ∀ j, j < ocn xss → rep j < flN xss ∧ (oL xss)[rep j]? = some (j : Int) := ⟨fun j => (hex j).choose, fun j hj => (hex j).choose_spec hj⟩
  have hlab : ∀ j, j < ocn xss → ∀ L ∈ autL xss, ∀ q : Nat, q < flN xss → fz L (rep j) = (q : Int) → fz (oL xss) q = (j : Int) := fun j hj L hL q hq he => by
    have := (oL_same hm (hrep j hj).1 hq).2 ⟨L, hL, he⟩
    rw [← this, fz_at (hrep j hj).2]
  have hp : Passed (flN xss) ((List.range (ocn xss)).flatMap fun j => (autL xss).map fun L => fz L (rep j)) := by
    refine ⟨fun x hx => ?_, List.pairwise_flatMap.2 ⟨fun j hj => ?_, ?_⟩⟩
    · obtain ⟨j, hj, hx⟩ := List.mem_flatMap.1 hx
      obtain ⟨L, hL, rfl⟩ := List.mem_map.1 hx
      obtain ⟨q, hq, he⟩ := aut_img hm hL (hrep j (List.mem_range.1 hj)).1
      rw [he]
      omega
    · refine List.pairwise_map.2 (autL_nodup.imp_of_mem fun {a b} ha hb hab he => hab (aut_uniq hm ha hb (hrep j (List.mem_range.1 hj)).1 he))
    · refine (List.nodup_range (n := ocn xss)).imp_of_mem fun {a b} ha hb hab x hx y hy hxy => ?_
      obtain ⟨L, hL, rfl⟩ := List.mem_map.1 hx
      obtain ⟨M, hM, rfl⟩ := List.mem_map.1 hy
      have ha' := List.mem_range.1 ha
      have hb' := List.mem_range.1 hb
      obtain ⟨q, hq, he⟩ := aut_img hm hL (hrep a ha').1
      have h1 := hlab a ha' L hL q hq he
      have h2 := hlab b hb' M hM q hq (by rw [← hxy, he])
      omega
  have hall : ∀ k : Nat, k < flN xss → (k : Int) ∈ (List.range (ocn xss)).flatMap fun j => (autL xss).map fun L => fz L (rep j) := fun k hk => by
    obtain ⟨j, hj, hjk⟩ := oL_at hm hk
    obtain ⟨L, hL, he⟩ := (oL_same hm (hrep j hj).1 hk).1 (by rw [fz_at (hrep j hj).2, fz_at hjk])
    exact List.mem_flatMap.2 ⟨j, List.mem_range.2 hj, List.mem_map.2 ⟨L, hL, he⟩⟩
  have h1 := len_all hall hp
  rw [List.length_flatMap] at h1
  simp only [List.length_map] at h1
  rw [← h1]
  have : ∀ l : List Nat, (l.map fun _ => (autL xss).length).sum = l.length * (autL xss).length := fun l => by
    induction l with
    | nil => simp
    | cons a l ih => simp [ih, Nat.add_mul, Nat.add_comm]
  rw [this, List.length_range, Nat.mul_comm]
/-- Done one after the other, two automorphisms are one. -/
theorem aut_then (hm : IsMan xss) (h : L ∈ autL xss) (h' : M ∈ autL xss) : ((List.range (flN xss)).map fun k : Nat => fz M (fz L k)) ∈ autL xss :=
  (aut_iff hm).2 (hom_then hm.sys rfl ((aut_iff hm).1 h) ((aut_iff hm).1 h'))
/-- An automorphism is told by what the flag 0 gets. -/
theorem aut_at (hm : IsMan xss) (h : L ∈ autL xss) : atR xss (fz L 0) = L ∧ atC xss (fz L 0) = 0 := by
  have ho := okMan_true hm
  have hf := hm.f2
  have hL := (aut_iff hm).1 h
  obtain ⟨q, hq, he⟩ := aut_img hm h (p := 0) (by omega)
  have he : fz L 0 = (q : Int) := he
  have hi := isoL_some hm.sys rfl (by omega) (hm.all (q := 0) (by omega)) hL he
  have hfl : flagB (flN xss) (q : Int) = true := by simp [flagB]; omega
  rw [he]
  refine ⟨?_, ?_⟩
  · rw [atR, if_pos ho, if_pos hfl, Int.toNat_natCast, hi]; rfl
  · rw [atC, if_pos ho, if_pos hfl, Int.toNat_natCast, hi]; rfl
/-- What the law of automorphisms asks. -/
structure AutF (xss : List (List Int)) : Prop where
  pos : 0 < (autL xss).length
  cnt : (autL xss).length * ocn xss = flN xss
  rg : irrB xss = decide (ocn xss = 1)
  ch : chB xss = true → ocn xss = 2
  grp : ∀ L ∈ autL xss, ∀ M ∈ autL xss, ((List.range (flN xss)).map fun k : Nat => fz M (fz L k)) ∈ autL xss
  lab : ∀ L ∈ autL xss, ∀ f : Nat, f < flN xss → ∃ q : Nat, q < flN xss ∧ fz L f = (q : Int) ∧ fz (oL xss) q = fz (oL xss) f
  mv : ∀ L ∈ autL xss, ∀ g ∈ xss, ∀ f : Nat, f < flN xss → fz L (fz g f) = fz g (fz L f)
  at0 : ∀ L ∈ autL xss, atR xss (fz L 0) = L ∧ atC xss (fz L 0) = 0
theorem autF (hm : IsMan xss) : AutF xss := by
  have ho := okMan_true hm
  have hf := hm.f2
  have hc := aut_count hm
  have hpos : 0 < (autL xss).length := by
    rcases Nat.eq_zero_or_pos (autL xss).length with h | h
    · rw [h, Nat.zero_mul] at hc; omega
    · exact h
  refine ⟨hpos, hc, ?_, fun h => ?_, fun L hL M hM => aut_then hm hL hM, fun L hL f hlt => ?_, fun L hL g hg f hlt => ?_, fun L hL => aut_at hm hL⟩
  · unfold irrB
    rw [ho, Bool.true_and]
    have hi := regular_iff hm
    by_cases h1 : ocn xss = 1
    · rw [decide_eq_true h1, decide_eq_true (hi.1 h1)]
    · rw [decide_eq_false h1, decide_eq_false fun h => h1 (hi.2 h)]
  · unfold chB at h
    rw [ho, Bool.true_and] at h
    exact ((chi_iff hm).1 (by simpa using h)).1
  · obtain ⟨q, hq, he⟩ := aut_img hm hL hlt
    exact ⟨q, hq, he, ((oL_same hm hlt hq).2 ⟨L, hL, he⟩).symm⟩
  · obtain ⟨i, hi, hgi⟩ := List.mem_iff_getElem.1 hg
    have h1 : xss[i]? = some g := by rw [List.getElem?_eq_getElem hi, hgi]
    exact ((aut_iff hm).1 hL).mv i g g h1 h1 f hlt
end
end Go.Proofs.Ytmgoaabeopnopaa
/- FlagOrbits and IsRegular: impl's and the spec's. -/
namespace Go.Proofs.Ytmgoaabeopnopaa
open Go.RowKit

theorem retS_own {w w' : World} {L : List Int} {C : Int} {A : Option Addr} {n c : Nat} (hl : L.length = n) (own : w'.ownsRow w.heap.size 2 1 (.slice A n c) n (ints L)) (hb : Below w.heap.size w w') : RetS w L C (.returned (.tuple #[.slice A n c, .int .i64 C])) w' := by
  subst hl
  exact ⟨A, c, rfl, own, hb⟩
set_option maxHeartbeats 3200000 in
set_option maxRecDepth 8000 in
theorem iisreg_any {A : Option Addr} {c N : Nat} {xss : List (List Int)} (w : World) (hm : okMan xss = true) (hx : xss.length = N) (ha : RdSS w A xss) :
    Calls Try.prog 123 #[.agg #[.slice A N c]] w fun e w' => e = .returned (.bool (decide ((autL xss).length = flN xss))) ∧ Below w.heap.size w w' := by
  have HX := Lib.hid hx
  have HA := Lib.hid ha
  have HM := Lib.hid hm
  have st0 := (St.start w).addBlk #[.slice A N c] 27
  have S0 := Lib.hid st0
  have x0 := (st0.blk (i := 0) rfl).cell (i := 0) rfl
  obtain ⟨r, hr⟩ : ∃ r, decide ((autL xss).length = flN xss) = r := ⟨_, rfl⟩
  obtain ⟨s, hs⟩ : ∃ s, (orbsTo (autL xss) (flN xss) (flN xss)).length = s := ⟨_, rfl⟩
  have hrs : decide (s = 1) = r := by rw [← hr, ← hs]; simp only [regular_iff (okMan_iff.1 hm)]
  rw [hr]
  have HRS := Lib.hid hrs
  have HSS := Lib.hid hs
  clear st0 hx ha hm hr hs hrs
  go_enter Try.func123, Try.ntmps123
  go_wp2_with fail
  refine (iforb_any _ HM.out HX.out (HA.out.keep S0.out.below)).mono ?_
  rintro e w2 ⟨g, n, rfl, hn, own, bel⟩
  rw [HSS.out]
  have S1 := Lib.hid (S0.out.go bel)
  clear own bel x0 hn
  go_wp2
  go_ret
  exact ⟨ret_bool (by rw [← HRS.out, Bool.eq_iff_iff]; simp; try omega), S1.out.below⟩

set_option maxHeartbeats 3200000 in
set_option maxRecDepth 8000 in
theorem iFlagOrbits_any {A : Option Addr} {c N : Nat} {xss : List (List Int)} (w : World) (hx : xss.length = N) (ha : RdSS w A xss) (hN : N ≤ 1048576) (hr : ∀ xs ∈ xss, (xs.length : Int) ≤ 1048576) :
    Calls Try.prog 60 #[.agg #[.slice A N c]] w (RetS w (fobR xss) (auC xss)) := by
  have HX := Lib.hid hx
  have HA := Lib.hid ha
  have HR := Lib.hid hr
  have st0 := (St.start w).addBlk #[.slice A N c] 27
  have S0 := Lib.hid st0
  have x0 := (st0.blk (i := 0) rfl).cell (i := 0) rfl
  clear st0
  cases ho : okMan xss
  · have h1 : fobR xss = [] := by simp [fobR, ho]
    have h2 : auC xss = 1 := by simp [auC, ho]
    rw [h1, h2]
    have HO := Lib.hid ho
    clear hx ha hr ho h1 h2
    go_enter Try.func60, Try.ntmps60
    go_wp2_with fail
    refine (iMan_any _ HX.out (HA.out.keep S0.out.below) hN HR.out).mono ?_
    rintro e w1 ⟨rfl, bel⟩
    rw [HO.out]
    have S1 := Lib.hid (S0.out.go bel)
    have x1 := (S1.out.blk (i := 0) rfl).cell (i := 0) rfl
    clear bel x0
    clear x1
    go_wp2
    go_ret2
    exact ⟨none, 0, rfl, World.ownsRow_nil _ _ _ _, S1.out.below⟩
  · have h1 : fobR xss = labL (autL xss) (flN xss) := by simp [fobR, ho]
    have h2 : auC xss = 0 := by simp [auC, ho]
    rw [h1, h2]
    have HO := Lib.hid ho
    clear hx ha hr ho h1 h2
    go_enter Try.func60, Try.ntmps60
    go_wp2_with fail
    refine (iMan_any _ HX.out (HA.out.keep S0.out.below) hN HR.out).mono ?_
    rintro e w1 ⟨rfl, bel⟩
    rw [HO.out]
    have S1 := Lib.hid (S0.out.go bel)
    have x1 := (S1.out.blk (i := 0) rfl).cell (i := 0) rfl
    clear bel x0
    go_wp2_with fail
    refine (iforb_any _ HO.out HX.out (HA.out.keep S1.out.below)).mono ?_
    rintro e w2 ⟨g, n, rfl, hn, own, bel⟩
    subst hn
    have S2 := Lib.hid (S1.out.go bel)
    have OWN := Lib.hid (own_base own S1.out.lo)
    clear own bel x1
    go_wp2
    go_ret2
    exact retS_own (labL_length _ _) OWN.out S2.out.below

set_option maxHeartbeats 3200000 in
set_option maxRecDepth 8000 in
theorem iIsRegular_any {A : Option Addr} {c N : Nat} {xss : List (List Int)} (w : World) (hx : xss.length = N) (ha : RdSS w A xss) (hN : N ≤ 1048576) (hr : ∀ xs ∈ xss, (xs.length : Int) ≤ 1048576) :
    Calls Try.prog 61 #[.agg #[.slice A N c]] w (fun e w' => e = .returned (.tuple #[.bool (irrB xss), .int .i64 (auC xss)]) ∧ Below w.heap.size w w') := by
  have HX := Lib.hid hx
  have HA := Lib.hid ha
  have HR := Lib.hid hr
  have st0 := (St.start w).addBlk #[.slice A N c] 27
  have S0 := Lib.hid st0
  have x0 := (st0.blk (i := 0) rfl).cell (i := 0) rfl
  clear st0
  cases ho : okMan xss
  · have h1 : irrB xss = false := by simp [irrB, ho]
    have h2 : auC xss = 1 := by simp [auC, ho]
    rw [h1, h2]
    have HO := Lib.hid ho
    clear hx ha hr ho h1 h2
    go_enter Try.func61, Try.ntmps61
    go_wp2_with fail
    refine (iMan_any _ HX.out (HA.out.keep S0.out.below) hN HR.out).mono ?_
    rintro e w1 ⟨rfl, bel⟩
    rw [HO.out]
    have S1 := Lib.hid (S0.out.go bel)
    have x1 := (S1.out.blk (i := 0) rfl).cell (i := 0) rfl
    clear bel x0
    clear x1
    go_wp2
    go_ret2
    exact ⟨rfl, S1.out.below⟩
  · have h1 : irrB xss = decide ((autL xss).length = flN xss) := by simp [irrB, ho]
    have h2 : auC xss = 0 := by simp [auC, ho]
    rw [h1, h2]
    have HO := Lib.hid ho
    clear hx ha hr ho h1 h2
    go_enter Try.func61, Try.ntmps61
    go_wp2_with fail
    refine (iMan_any _ HX.out (HA.out.keep S0.out.below) hN HR.out).mono ?_
    rintro e w1 ⟨rfl, bel⟩
    rw [HO.out]
    have S1 := Lib.hid (S0.out.go bel)
    have x1 := (S1.out.blk (i := 0) rfl).cell (i := 0) rfl
    clear bel x0
    go_wp2_with fail
    refine (iisreg_any _ HO.out HX.out (HA.out.keep S1.out.below)).mono ?_
    rintro e w2 ⟨rfl, bel⟩
    have S2 := Lib.hid (S1.out.go bel)
    clear bel x1
    go_wp2
    go_ret2
    exact ⟨rfl, S2.out.below⟩

end Go.Proofs.Ytmgoaabeopnopaa
/- slices.Equal at []int64. -/
namespace Go.Proofs.Ytmgoaabeopnopaa
open Go.RowKit

set_option maxHeartbeats 800000 in
theorem eqs_any {A B : Option Addr} {c d n : Nat} {xs ys : List Int} {r : Bool} (w : World) (hx : xs.length = n) (hy : ys.length = n) (ha : Rd w A (ints xs)) (hb : Rd w B (ints ys)) (hn : n ≤ 1048576) (hr : decide (xs = ys) = r) :
    Calls Try.prog 163 #[.slice A n c, .slice B n d] w fun e w' => e = .returned (.bool r) ∧ Below w.heap.size w w' := by
  have HX := Lib.hid hx
  have HY := Lib.hid hy
  have HA := Lib.hid ha
  have HB := Lib.hid hb
  have HR := Lib.hid hr
  have hnn : ((n : Int) != (n : Int)) = false := by simp
  clear hx hy ha hb hr
  go_enter Try.func163, Try.ntmps163
  go_wp2
  go_loopw [13] (fun v wr => ∃ k : Nat, k ≤ n ∧ v = .int .i64 k ∧ xs.take k = ys.take k ∧ Below w.heap.size w wr) (fun v _ => n - (intOf v).toNat)
  case atStart => exact ⟨0, Nat.zero_le _, rfl, by simp, Below.refl _ _⟩
  case round =>
    obtain ⟨k, hk, rfl, ht, bel⟩ := hrel
    have HT := Lib.hid ht
    have BE := Lib.hid bel
    clear ht bel
    by_cases hlt : k < n
    · obtain ⟨b1, o1, x, rfl, hgx, hcx⟩ := (HA.out.keep BE.out).int (k := k) (by rw [HX.out]; exact hlt)
      obtain ⟨b2, o2, y, rfl, hgy, hcy⟩ := (HB.out.keep BE.out).int (k := k) (by rw [HY.out]; exact hlt)
      have px := BelowOf.cell hcx
      have py := BelowOf.cell hcy
      have kI : (k : Int) < (n : Int) := by omega
      have kz : (0 : Int) ≤ (k : Int) := by omega
      have HGX := Lib.hid hgx
      have HGY := Lib.hid hgy
      clear hgx hgy hcx hcy
      by_cases he : x = y
      · have hne : (x != y) = false := by rw [he]; simp
        have HT2 := Lib.hid (show xs.take (k + 1) = ys.take (k + 1) by rw [take_succ_of HGX.out, take_succ_of HGY.out, HT.out, he])
        clear he
        go_wp2
        refine wp_region_quiet_below (by kernel_rfl) (by kernel_rfl) ?_
        repeat (go_big_quiet_step ((fail)))
        refine wpQuiet_nil ?_
        intro _ hw'
        obtain ⟨⟨wq, hbq⟩, hw''⟩ := hw'
        subst hw''
        have BE2 := Lib.hid (BE.out.trans (hbq.mono BE.out.size))
        clear hbq
        go_wp2
        go_roundw
        case rel => exact ⟨k + 1, by omega, by go_num, HT2.out, BE2.out⟩
        case measure => simp [intOf]; omega
      · have hne : (x != y) = true := by rw [bne_iff_ne]; exact he
        have HF := Lib.hid (show r = false from by
          rw [← HR.out, decide_eq_false_iff_not]
          intro h
          have h1 := HGX.out
          rw [h, HGY.out] at h1
          injection h1 with h1
          exact he h1.symm)
        clear he
        go_wp2
        refine wp_region_quiet_below (by kernel_rfl) (by kernel_rfl) ?_
        repeat (go_big_quiet_step ((fail)))
        refine wpQuiet_nil ?_
        intro _ hw'
        obtain ⟨⟨wq, hbq⟩, hw''⟩ := hw'
        subst hw''
        have BE2 := Lib.hid (BE.out.trans (hbq.mono BE.out.size))
        clear hbq
        go_wp2
        go_ret
        exact ⟨ret_bool HF.out.symm, BE2.out⟩
    · have HF := Lib.hid (show r = true from by
        rw [← HR.out, decide_eq_true_eq]
        have := HT.out
        rwa [List.take_of_length_le (by rw [HX.out]; omega), List.take_of_length_le (by rw [HY.out]; omega)] at this)
      go_wp2
      go_ret
      exact ⟨ret_bool HF.out.symm, BE.out⟩
end Go.Proofs.Ytmgoaabeopnopaa
/- impl.symmetryType. -/
namespace Go.Proofs.Ytmgoaabeopnopaa
open Go.RowKit

abbrev syPs (h0 : Nat) (m : Value) (g n : Nat) (OL : List Int) (gI N : Nat) (vals : List Value) (L : List (List Int)) : List Pc :=
  [.blk h0 #[m] 27, .own 2 (some ⟨g, 0, none⟩) n n (ints OL), .rows 2 36 (some ⟨gI, 0, none⟩) N N vals L]

set_option maxHeartbeats 6400000 in
set_option maxRecDepth 100000 in
theorem isym_any {A : Option Addr} {c N : Nat} {xss : List (List Int)} (w : World) (hm : okMan xss = true) (hx : xss.length = N) (ha : RdSS w A xss) :
    Calls Try.prog 135 #[.agg #[.slice A N c]] w (RetSL w (stL xss)) := by
  have hman := okMan_iff.1 hm
  have hsys := hman.sys
  have hn4 := hman.f4
  have hn2 := hman.f2
  have hN5 := hman.r5
  rw [hx] at hN5
  have hcl := ocn_le hman
  have hlen := @oL_len xss
  have hsn : (stL xss).length = N := by rw [stL_len, hx]
  obtain ⟨q, hq⟩ : ∃ q, ocn xss = q := ⟨_, rfl⟩
  have hq2 : (orbsTo (autL xss) (flN xss) (flN xss)).length = q := hq
  have hat := fun (f : Nat) (hf : f < flN xss) => oL_at hman hf
  have hRL := fun (g : List Int) (D : List Int) (h : g ∈ xss) (h2 : StR xss g (flN xss) D) => stR_done hman h h2
  have hRS := fun (g : List Int) (f j : Nat) (D : List Int) (h : g ∈ xss) (hf : f < flN xss) (h2 : StR xss g f D) (h3 : (oL xss)[f]? = some (j : Int)) => stR_step hman h hf h2 h3
  have hR0 := fun (g : List Int) => @stR_start xss g
  obtain ⟨n, hn⟩ : ∃ n, flN xss = n := ⟨_, rfl⟩
  obtain ⟨OL, hOL⟩ : ∃ OL, oL xss = OL := ⟨_, rfl⟩
  have hOL2 : labL (autL xss) (flN xss) = OL := hOL
  rw [hq] at hcl hat hR0
  rw [hn] at hsys hn2 hn4 hcl hlen hat hRL hRS
  rw [hOL] at hlen hat hRS
  have HM := Lib.hid hm
  have HX := Lib.hid hx
  have HA := Lib.hid ha
  have HS := Lib.hid hsys
  have HLEN := Lib.hid hlen
  have HSN := Lib.hid hsn
  have HQ := Lib.hid hq2
  have HAT := Lib.hid hat
  have HRL := Lib.hid hRL
  have HRS := Lib.hid hRS
  have HR0 := Lib.hid hR0
  have HN := Lib.hid hn
  have HOL := Lib.hid hOL2
  have HOO := Lib.hid hOL
  have st0 := (St.start w).addBlk #[.slice A N c] 27
  have S0 := Lib.hid st0
  have x0 := (st0.blk (i := 0) rfl).cell (i := 0) rfl
  have hmk := run_make_row' (P := Try.prog) 22 36 (.slice none 0 0) 24 Try.underlying22 Try.infoS rfl .i64 .i64 N (by omega) (by omega)
  have hmk2 := run_make_row' (P := Try.prog) 36 2 (.int .i64 0) 8 Try.underlying36 Try.info2 rfl .i64 .i64 q (by omega) (by omega)
  clear st0 hx ha hm hman hsys hq hq2 hat hRL hRS hR0 hn hOL hOL2 hsn hlen
  go_enter Try.func135, Try.ntmps135
  go_wp2_with fail
  refine (iforb_any _ HM.out HX.out (HA.out.keep S0.out.below)).mono ?_
  rintro e w1 ⟨g, n1, rfl, hn1, own, bel⟩
  rw [HN.out] at hn1
  rw [HOL.out] at own
  subst hn1
  rw [HQ.out]
  have S1 := Lib.hid (S0.out.addOwn bel own (Nat.le_refl _))
  have x1 := (S1.out.blk (i := 0) rfl).cell (i := 0) rfl
  clear own bel x0
  go_wp2_with fail
  refine (rank_bel _).mono ?_
  rintro e w3 ⟨rfl, bel⟩
  have st3 := S1.out.go bel
  obtain ⟨vals0, st4⟩ := st3.addRows ((Below.refl _ _).alloc (Nat.le_refl _) _) (ownSS_make w3 N 36 (by unfold maxLen; omega)) (Nat.le_refl _) (by simp)
  have x4 := (st4.blk (i := 0) rfl).cell (i := 0) rfl
  have S4 := Lib.hid (show St w _ (syPs w.heap.size (.slice A N c) g n1 OL w3.heap.size N vals0 (rwTo (stL xss) N 0 [])) from by rw [rwTo_zero]; exact st4)
  clear bel x1 st3 st4
  go_wp2
  clear hmk x4
  obtain ⟨gI, hgI⟩ : ∃ g, w3.heap.size = g := ⟨_, rfl⟩
  rw [hgI] at S4 ⊢
  clear hgI
  go_loopw [21] (fun v wr => ∃ (k : Nat) (vals : List Value), k ≤ N ∧ v = .int .i64 k ∧ St w wr (syPs w.heap.size (.slice A N c) g n1 OL gI N vals (rwTo (stL xss) N k []))) (fun v _ => N - (intOf v).toNat)
  case atStart => exact ⟨0, vals0, Nat.zero_le _, rfl, S4.out⟩
  case round =>
    obtain ⟨k, vals, hk, rfl, st⟩ := hrel
    have S := Lib.hid st
    have xk := (st.blk (i := 0) rfl).cell (i := 0) rfl
    clear S4 st
    by_cases hkN : k < N
    · obtain ⟨b2, o2, A2, c2, gg, rfl, hgg, hcw0, hrd, hms⟩ := HA.out.row (k := k) (by rw [HX.out]; exact hkN)
      have hcw := cell_be hcw0 S.out.below
      clear hcw0
      have hlg := sys_len HS.out hgg
      obtain ⟨l, hl⟩ : ∃ l, gg.length = l := ⟨_, rfl⟩
      rw [hl] at hcw hms hlg
      obtain rfl : l = n1 := by omega
      have HGG := Lib.hid hgg
      have HGM := Lib.hid (List.mem_of_getElem? hgg)
      have st5 := S.out.addMake (.int .i64 0) q 2 (by unfold maxLen; omega)
      obtain ⟨u, hu⟩ : ∃ u, vals[k]? = some u := ⟨_, List.getElem?_eq_getElem (by have := (st5.rows (i := 2) rfl).1; omega)⟩
      have c3 := own_cell (st5.rows (i := 2) rfl) hu
      have f3 := (st5.rows (i := 2) rfl).frozenAt k
      have st5b : St w (wr.alloc (.cells (madeCells #[.int .i64 0] q) 2)) (syPs w.heap.size (.slice (some ⟨b2, o2, none⟩) N c) g l OL gI N vals (rwTo (stL xss) N k []) ++ [.own 2 (some ⟨wr.heap.size, 0, none⟩) q q (ints (List.replicate q 0))]) := by simpa [ints, syPs] using st5
      have st6 := (st5b.rowPut (i := 2) (j := 3) (ys := List.replicate q 0) rfl rfl (by simp) (by decide) (by decide) hkN).take 3
      have hvl : vals.length = N := by have := (S.out.rows (i := 2) rfl).1; omega
      have HV := Lib.hid (show (vals.set k (.slice (some ⟨wr.heap.size, 0, none⟩) q q))[k]? = some (.slice (some ⟨wr.heap.size, 0, none⟩) q q) from List.getElem?_set_self (by rw [hvl]; exact hkN))
      obtain ⟨valsK, hvK⟩ : ∃ v, vals.set k (.slice (some ⟨wr.heap.size, 0, none⟩) q q) = v := ⟨_, rfl⟩
      obtain ⟨g5, hg5⟩ : ∃ g, wr.heap.size = g := ⟨_, rfl⟩
      have S6 := Lib.hid (show St w ((wr.alloc (.cells (madeCells #[.int .i64 0] q) 2)).setCell ⟨gI, k, none⟩ (.slice (some ⟨wr.heap.size, 0, none⟩) q q)) (syPs w.heap.size (.slice (some ⟨b2, o2, none⟩) N c) g l OL gI N valsK (rwTo (stL xss) N k (List.replicate q 0))) from by
        rw [← hvK, ← rwTo_set hkN (x := [])]
        exact st6)
      rw [hvK, hg5] at HV
      have kI : (k : Int) < (N : Int) := by omega
      have HRD := Lib.hid hrd
      clear st5 st5b st6 hu hvK hvl hgg hrd
      go_wp2
      clear c3 f3 hmk2
      rw [hg5] at S6
      go_loopw [33] (fun v wi => ∃ (f : Nat) (D : List Int), f ≤ l ∧ v = .int .i64 f ∧ St w wi (syPs w.heap.size (.slice (some ⟨b2, o2, none⟩) N c) g l OL gI N valsK (rwTo (stL xss) N k D)) ∧ StR xss gg f D) (fun v _ => l - (intOf v).toNat)
      case atStart => exact ⟨0, _, Nat.zero_le _, rfl, S6.out, HR0.out gg⟩
      case round =>
        obtain ⟨f, D, hf, rfl, st2, hst⟩ := hrel
        have S2 := Lib.hid st2
        have ST := Lib.hid hst
        have hDl : D.length = q := by rw [hst.1, ← HQ.out]; rfl
        clear st2 hst S6 S
        by_cases hfl : f < l
        · obtain ⟨j, hj, hjo⟩ := HAT.out f hfl
          have hrd2 := HRD.out.keep S2.out.below
          obtain ⟨b4, o4, y, rfl, hgy, hcy⟩ := hrd2.int (k := f) (by omega)
          obtain ⟨r, rfl, hr0⟩ := sys_at HS.out HGG.out hgy
          have hrl : r < l := by omega
          obtain ⟨v, hv, hvo⟩ := HAT.out r hrl
          have hco := own_cell (S2.out.own (i := 1) rfl) (show (ints OL)[f]? = some (.int .i64 j) by rw [ints, List.getElem?_map, hjo]; rfl)
          have hcr := own_cell (S2.out.own (i := 1) rfl) (show (ints OL)[r]? = some (.int .i64 v) by rw [ints, List.getElem?_map, hvo]; rfl)
          have hrow := rwTo_at (L := stL xss) (x := D) hkN
          obtain ⟨A8, c8, hv8, hown8⟩ := S2.out.rowAt (i := 2) (k := k) rfl hrow
          rw [HV.out, hDl] at hv8
          simp only [Option.some.injEq, Value.slice.injEq, true_and] at hv8
          obtain ⟨rfl, rfl⟩ := hv8
          rw [hDl] at hown8
          have hcI := own_cell (S2.out.rows (i := 2) rfl) HV.out
          obtain ⟨u8, hu8⟩ := ints_at hDl hj
          have hcj := own_cell hown8 hu8
          have hfj := hown8.frozenAt j
          have ST2 := Lib.hid (HRS.out gg f j D HGM.out hfl ST.out hjo)
          have hfz : fz OL (fz gg (f : Int)) = (v : Int) := by rw [show fz gg (f : Int) = (r : Int) from fz_at hgy, fz_at hvo]
          have HFZ := Lib.hid hfz
          have HDL := Lib.hid hDl
          have HROW := Lib.hid hrow
          have HOW := Lib.hid hown8
          have jI : (j : Int) < (q : Int) := by omega
          clear hrd2 hgy hvo hjo hrow hu8 hfz hDl hown8
          go_wp2
          go_still_tail 13, (by kernel_rfl)
          have S4 := Lib.hid (S2.out.go (below_drewN (Below.refl _ _) 1))
          obtain ⟨A9, c9, hv9, hown9⟩ := S4.out.rowAt (i := 2) (k := k) rfl HROW.out
          rw [HV.out, HDL.out] at hv9
          simp only [Option.some.injEq, Value.slice.injEq, true_and] at hv9
          obtain ⟨rfl, rfl⟩ := hv9
          rw [HDL.out] at hown9
          have hst9 := hown9.stored j (.int .i64 (v : Int))
          have h1 := hst9.1
          rw [ints_set] at h1
          have h5 := S4.out.rowWrite (i := 2) (k := k) (ys := D.set j (v : Int)) rfl (by decide) HROW.out (by rw [HDL.out]; exact HV.out) (Below.refl _ _) (by simp) (by rw [HDL.out]; exact h1) (by rw [HDL.out]; exact hst9.2)
          have S5 := Lib.hid (show St w _ (syPs w.heap.size (.slice (some ⟨b2, o2, none⟩) N c) g l OL gI N valsK (rwTo (stL xss) N k (D.set j (v : Int)))) from by
            rw [← rwTo_set hkN (x := D)]
            exact h5)
          clear hst9 h1 h5 hown9
          go_wp2
          go_roundw
          case rel => exact ⟨f + 1, D.set j (v : Int), by omega, by go_num, S5.out, by rw [← HFZ.out]; exact ST2.out⟩
          case measure => simp [intOf]; omega
        · obtain rfl : f = l := by omega
          obtain rfl := HRL.out gg D HGM.out ST.out
          have S3 := Lib.hid (show St w _ (syPs w.heap.size (.slice (some ⟨b2, o2, none⟩) N c) g f OL gI N valsK (rwTo (stL xss) N (k + 1) [])) from by
            rw [← rwTo_next (show (stL xss)[k]? = some (stRow xss gg) from by rw [stL, List.getElem?_map, HGG.out]; rfl)]
            exact S2.out)
          go_wp2
          go_roundw
          case rel => exact ⟨k + 1, valsK, by omega, by go_num, S3.out⟩
          case measure => simp [intOf]; omega
    · obtain rfl : k = N := by omega
      have h := S.out
      rw [rwTo_all HSN.out] at h
      have S7 := Lib.hid h
      clear h S
      go_wp2
      go_ret
      exact ⟨_, k, k, rfl, HSN.out, S7.out.sep.ownSS (i := 2) rfl, S7.out.below⟩
end Go.Proofs.Ytmgoaabeopnopaa
/- SymmetryType and IsChiral: impl's and the spec's. -/
namespace Go.Proofs.Ytmgoaabeopnopaa
open Go.RowKit

theorem eqs_ne {A B : Option Addr} {c d n m : Nat} (w : World) (hne : n ≠ m) :
    Calls Try.prog 163 #[.slice A n c, .slice B m d] w fun e w' => e = .returned (.bool false) ∧ Below w.heap.size w w' := by
  have hI : ¬ (n : Int) = (m : Int) := by omega
  go_enter Try.func163, Try.ntmps163
  go_wp2
  go_ret
  exact ⟨rfl, Below.refl _ _⟩
theorem eqs_two {A B : Option Addr} {c d n m : Nat} {xs ys : List Int} {r : Bool} (w : World) (hx : xs.length = n) (hy : ys.length = m) (ha : Rd w A (ints xs)) (hb : Rd w B (ints ys)) (hn : n ≤ 1048576) (hr : decide (xs = ys) = r) :
    Calls Try.prog 163 #[.slice A n c, .slice B m d] w fun e w' => e = .returned (.bool r) ∧ Below w.heap.size w w' := by
  by_cases h : n = m
  · subst h
    exact eqs_any w hx hy ha hb hn hr
  · have : r = false := by rw [← hr]; exact decide_eq_false fun e => h (by rw [← hx, ← hy, e])
    subst this
    exact eqs_ne w h
set_option maxHeartbeats 6400000 in
set_option maxRecDepth 100000 in
theorem ichir_any {A : Option Addr} {c N : Nat} {xss : List (List Int)} (w : World) (hm : okMan xss = true) (hx : xss.length = N) (ha : RdSS w A xss) :
    Calls Try.prog 124 #[.agg #[.slice A N c]] w fun e w' => e = .returned (.bool (chB xss)) ∧ Below w.heap.size w w' := by
  have hman := okMan_iff.1 hm
  have hN5 := hman.r5
  have hle := (stR6_le xss).2
  obtain ⟨V, hV⟩ : ∃ V, chB xss = V := ⟨_, rfl⟩
  have hV1 : (∀ r ∈ stL xss, r = [1, 0]) → V = true := fun h => by rw [← hV, chB, hm, Bool.true_and]; exact @decide_eq_true _ (Classical.propDecidable _) h
  have hV0 : ¬ (∀ r ∈ stL xss, r = [1, 0]) → V = false := fun h => by rw [← hV, chB, hm, Bool.true_and]; exact @decide_eq_false _ (Classical.propDecidable _) h
  rw [hV]
  have hst : stR6 xss = stL xss := by simp [stR6, hm]
  rw [hst] at hle
  have hsl : (stL xss).length = N := by rw [stL_len, hx]
  obtain ⟨SL, hSL⟩ : ∃ SL, stL xss = SL := ⟨_, rfl⟩
  rw [hSL] at hsl hle hV1 hV0
  rw [hx] at hN5
  have HM := Lib.hid hm
  have HX := Lib.hid hx
  have HA := Lib.hid ha
  have HSL := Lib.hid hSL
  have HSN := Lib.hid hsl
  have HLE := Lib.hid hle
  have HV1 := Lib.hid hV1
  have HV0 := Lib.hid hV0
  have st0 := (St.start w).addBlk #[.slice A N c] 27
  have S0 := Lib.hid st0
  have x0 := (st0.blk (i := 0) rfl).cell (i := 0) rfl
  clear st0 hx ha hm hman hle hV hV1 hV0 hst hsl hSL
  go_enter Try.func124, Try.ntmps124
  go_wp2_with fail
  refine (isym_any _ HM.out HX.out (HA.out.keep S0.out.below)).mono ?_
  rintro e w1 ⟨A1, m, c1, rfl, hm1, own, bel⟩
  rw [HSL.out] at hm1 own
  obtain rfl : m = N := by rw [← hm1]; exact HSN.out
  obtain ⟨vals, st1⟩ := S0.out.addRows bel own (Nat.le_refl _) (Nat.le_refl _)
  have S1 := Lib.hid st1
  clear hm1 own bel st1 x0
  go_wp2
  go_loopw [8] (fun v wr => ∃ k : Nat, k ≤ m ∧ v = .int .i64 k ∧ St w wr [.rows 2 36 A1 m c1 vals SL] ∧ ∀ j r, j < k → SL[j]? = some r → r = [1, 0]) (fun v _ => m - (intOf v).toNat)
  case atStart => exact ⟨0, Nat.zero_le _, rfl, S1.out.drop 0, fun j r hj => by omega⟩
  case round =>
    obtain ⟨k, hk, rfl, st, hall⟩ := hrel
    have S := Lib.hid st
    have ALL := Lib.hid hall
    clear st hall S1
    by_cases hkN : k < m
    · obtain ⟨row, hrow⟩ : ∃ row, SL[k]? = some row := ⟨_, List.getElem?_eq_getElem (by rw [HSN.out]; exact hkN)⟩
      obtain ⟨A3, c3, hv, hown⟩ := S.out.rowAt (i := 0) (k := k) rfl hrow
      obtain ⟨g1, rfl⟩ := own_shape (S.out.rows (i := 0) rfl) (show 0 < m by omega)
      have hcx := own_cell (S.out.rows (i := 0) rfl) hv
      have hrl := HLE.out row (List.mem_of_getElem? hrow)
      obtain ⟨q, hq⟩ : ∃ q, row.length = q := ⟨_, rfl⟩
      rw [hq] at hcx hown hrl
      have S2 := Lib.hid (S.out.addLit2 (.int .i64 1) (.int .i64 0) 2)
      have HOWN := Lib.hid (own_rd (hown.alloc (.cells #[.int .i64 1, .int .i64 0] 2)))
      have HLIT := Lib.hid (own_rd (S2.out.own (i := 1) rfl))
      have HROW := Lib.hid hrow
      have HQ := Lib.hid hq
      obtain ⟨V2, hV2⟩ : ∃ V2, decide (row = [1, 0]) = V2 := ⟨_, rfl⟩
      have HV2 := Lib.hid hV2
      clear hrow hv hown hq hV2
      go_wp2_with fail
      refine (eqs_two (xs := row) (ys := [1, 0]) _ HQ.out rfl HOWN.out HLIT.out (by omega) HV2.out).mono ?_
      rintro e w5 ⟨rfl, bel⟩
      have S5 := Lib.hid ((S2.out.go bel).drop 1)
      clear bel hcx
      have hV2 := HV2.out
      cases V2
      · have hVf := HV0.out (fun h => by have := h row (List.mem_of_getElem? HROW.out); simp [this] at hV2)
        subst hVf
        clear hV2
        go_wp2
        go_ret
        exact ⟨rfl, S5.out.below⟩
      · have hrow1 : row = [1, 0] := of_decide_eq_true hV2
        have ALL2 := Lib.hid (show ∀ j r, j < k + 1 → SL[j]? = some r → r = [1, 0] from fun j r hj hr => by
          rcases Nat.lt_succ_iff_lt_or_eq.1 hj with h1 | rfl
          · exact ALL.out j r h1 hr
          · rw [HROW.out] at hr; injection hr with hr; rw [← hr]; exact hrow1)
        clear hV2 hrow1
        go_wp2
        go_roundw
        case rel => exact ⟨k + 1, by omega, by go_num, S5.out, ALL2.out⟩
        case measure => simp [intOf]; omega
    · obtain rfl : k = m := by omega
      have hVt := HV1.out (fun r hr => by
        obtain ⟨j, hj, he⟩ := List.mem_iff_getElem.1 hr
        exact ALL.out j r (by rw [← HSN.out]; exact hj) (by rw [List.getElem?_eq_getElem hj, he]))
      subst hVt
      go_wp2
      go_ret
      exact ⟨rfl, S.out.below⟩

set_option maxHeartbeats 6400000 in
set_option maxRecDepth 100000 in
theorem iSymmetryType_any {A : Option Addr} {c N : Nat} {xss : List (List Int)} (w : World) (hx : xss.length = N) (ha : RdSS w A xss) (hN : N ≤ 1048576) (hr : ∀ xs ∈ xss, (xs.length : Int) ≤ 1048576) :
    Calls Try.prog 75 #[.agg #[.slice A N c]] w (fun e w' => ∃ A' c', e = .returned (.tuple #[.slice A' (stR6 xss).length c', .int .i64 (auC xss)]) ∧ OwnSS w' w.heap.size w'.heap.size 36 A' (stR6 xss).length c' (stR6 xss) ∧ Below w.heap.size w w') := by
  have HX := Lib.hid hx
  have HA := Lib.hid ha
  have HR := Lib.hid hr
  have st0 := (St.start w).addBlk #[.slice A N c] 27
  have S0 := Lib.hid st0
  have x0 := (st0.blk (i := 0) rfl).cell (i := 0) rfl
  clear st0
  cases ho : okMan xss
  · have h1 : stR6 xss = [] := by simp [stR6, ho]
    have h2 : auC xss = 1 := by simp [auC, ho]
    rw [h1, h2]
    have HO := Lib.hid ho
    clear hx ha hr ho h1 h2
    go_enter Try.func75, Try.ntmps75
    go_wp2_with fail
    refine (iMan_any _ HX.out (HA.out.keep S0.out.below) hN HR.out).mono ?_
    rintro e w1 ⟨rfl, bel⟩
    rw [HO.out]
    have S1 := Lib.hid (S0.out.go bel)
    have x1 := (S1.out.blk (i := 0) rfl).cell (i := 0) rfl
    clear bel x0
    clear x1
    go_wp2
    go_ret2
    exact ⟨none, 0, rfl, ownSS_nil _ _ _ _, S1.out.below⟩
  · have h1 : stR6 xss = stL xss := by simp [stR6, ho]
    have h2 : auC xss = 0 := by simp [auC, ho]
    rw [h1, h2]
    have HO := Lib.hid ho
    clear hx ha hr ho h1 h2
    go_enter Try.func75, Try.ntmps75
    go_wp2_with fail
    refine (iMan_any _ HX.out (HA.out.keep S0.out.below) hN HR.out).mono ?_
    rintro e w1 ⟨rfl, bel⟩
    rw [HO.out]
    have S1 := Lib.hid (S0.out.go bel)
    have x1 := (S1.out.blk (i := 0) rfl).cell (i := 0) rfl
    clear bel x0
    go_wp2_with fail
    refine (isym_any _ HO.out HX.out (HA.out.keep S1.out.below)).mono ?_
    rintro e w2 ⟨A2, m, c2, rfl, hm, own, bel⟩
    subst hm
    have S2 := Lib.hid (S1.out.go bel)
    have OWN := Lib.hid (ownSS_wide own S1.out.lo (Nat.le_refl _))
    clear own bel x1
    go_wp2
    go_ret2
    exact ⟨A2, c2, rfl, OWN.out, S2.out.below⟩

set_option maxHeartbeats 6400000 in
set_option maxRecDepth 100000 in
theorem iIsChiral_any {A : Option Addr} {c N : Nat} {xss : List (List Int)} (w : World) (hx : xss.length = N) (ha : RdSS w A xss) (hN : N ≤ 1048576) (hr : ∀ xs ∈ xss, (xs.length : Int) ≤ 1048576) :
    Calls Try.prog 62 #[.agg #[.slice A N c]] w (fun e w' => e = .returned (.tuple #[.bool (chB xss), .int .i64 (auC xss)]) ∧ Below w.heap.size w w') := by
  have HX := Lib.hid hx
  have HA := Lib.hid ha
  have HR := Lib.hid hr
  have st0 := (St.start w).addBlk #[.slice A N c] 27
  have S0 := Lib.hid st0
  have x0 := (st0.blk (i := 0) rfl).cell (i := 0) rfl
  clear st0
  cases ho : okMan xss
  · have h1 : chB xss = false := by simp [chB, ho]
    have h2 : auC xss = 1 := by simp [auC, ho]
    rw [h1, h2]
    have HO := Lib.hid ho
    clear hx ha hr ho h1 h2
    go_enter Try.func62, Try.ntmps62
    go_wp2_with fail
    refine (iMan_any _ HX.out (HA.out.keep S0.out.below) hN HR.out).mono ?_
    rintro e w1 ⟨rfl, bel⟩
    rw [HO.out]
    have S1 := Lib.hid (S0.out.go bel)
    have x1 := (S1.out.blk (i := 0) rfl).cell (i := 0) rfl
    clear bel x0
    clear x1
    go_wp2
    go_ret2
    exact ⟨rfl, S1.out.below⟩
  · have h2 : auC xss = 0 := by simp [auC, ho]
    rw [h2]
    have h1 := h2
    have HO := Lib.hid ho
    clear hx ha hr ho h1 h2
    go_enter Try.func62, Try.ntmps62
    go_wp2_with fail
    refine (iMan_any _ HX.out (HA.out.keep S0.out.below) hN HR.out).mono ?_
    rintro e w1 ⟨rfl, bel⟩
    rw [HO.out]
    have S1 := Lib.hid (S0.out.go bel)
    have x1 := (S1.out.blk (i := 0) rfl).cell (i := 0) rfl
    clear bel x0
    go_wp2_with fail
    refine (ichir_any _ HO.out HX.out (HA.out.keep S1.out.below)).mono ?_
    rintro e w2 ⟨rfl, bel⟩
    have S2 := Lib.hid (S1.out.go bel)
    clear bel x1
    go_wp2
    go_ret2
    exact ⟨rfl, S2.out.below⟩

end Go.Proofs.Ytmgoaabeopnopaa
