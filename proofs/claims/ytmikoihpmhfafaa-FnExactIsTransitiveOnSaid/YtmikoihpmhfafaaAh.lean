/- FlagOrbits and IsRegular: plain facts and walks, impl's and the spec's. -/
import Derived.Test.YtmikoihpmhfafaaL21
import Derived.Test.YtmikoihpmhfafaaAe
namespace Go.Proofs.Ytmikoihpmhfafaa
open Go.RowKit

noncomputable def fobR (xss : List (List Int)) : List Int := if okMan xss then labL (autL xss) (flN xss) else []
noncomputable def irrB (xss : List (List Int)) : Bool := okMan xss && decide ((autL xss).length = flN xss)
theorem fobR_le (xss : List (List Int)) : (fobR xss).length ≤ 1048576 := by
  unfold fobR
  split
  · rename_i h
    have := okMan_f4 h
    rw [labL_length]
    omega
  · simp
section
variable {xss : List (List Int)}
theorem autTo_full {n : Nat} : ∀ k, (autTo xss n k).length = k ↔ ∀ q, q < k → (isoL xss xss n q).isSome = true
  | 0 => by simp [autTo]
  | k + 1 => by
    have ih := autTo_full (n := n) k
    have hle := autTo_len (xss := xss) (n := n) k
    rw [autTo]
    cases h : isoL xss xss n k with
    | none =>
      simp only
      constructor
      · intro h1; omega
      · intro h1
        have := h1 k (by omega)
        rw [h] at this
        cases this
    | some L =>
      simp only [List.length_append, List.length_cons, List.length_nil]
      constructor
      · intro h1 q hq
        rcases Nat.lt_succ_iff_lt_or_eq.1 hq with h2 | rfl
        · exact ih.1 (by omega) q h2
        · rw [h]; rfl
      · intro h1
        rw [ih.2 fun q hq => h1 q (by omega)]
theorem same0 (hm : IsMan xss) {q : Nat} (hq : q < flN xss) : SameF xss 0 q ↔ (isoL xss xss (flN xss) q).isSome = true := by
  have hn : 0 < flN xss := by omega
  constructor
  · rintro ⟨L, hL, he⟩
    rw [isoL_some hm.sys rfl hn (hm.all hn) ((aut_iff hm).1 hL) he]
    rfl
  · intro h
    obtain ⟨L, hL⟩ := Option.isSome_iff_exists.1 h
    have := isoL_hom hL
    exact ⟨L, (aut_iff hm).2 this.1, this.2⟩
theorem full_iff (hm : IsMan xss) : (autL xss).length = flN xss ↔ ∀ q, q < flN xss → SameF xss 0 q := by
  rw [autL, autTo_full]
  exact ⟨fun h q hq => (same0 hm hq).2 (h q hq), fun h q hq => (same0 hm hq).1 (h q hq)⟩
theorem one_iff (hm : IsMan xss) : (orbsTo (autL xss) (flN xss) (flN xss)).length = 1 ↔ ∀ q, q < flN xss → SameF xss 0 q := by
  have hn : 0 < flN xss := by have := hm.f2; omega
  have hfirst : ∀ k, 0 < k → k ≤ flN xss → (orbsTo (autL xss) (flN xss) k)[0]? = some (orbL (autL xss) (flN xss) ((0 : Nat) : Int)) := by
    intro k
    induction k with
    | zero => intro h; omega
    | succ k ih =>
      intro _ hk
      rcases Nat.eq_zero_or_pos k with rfl | hk0
      · rw [orbsTo_out (by simp [orbsTo])]
        simp [orbsTo]
      · have h1 := ih hk0 (by omega)
        by_cases hin : (k : Int) ∈ (orbsTo (autL xss) (flN xss) k).flatten
        · rw [orbsTo_in hin]; exact h1
        · rw [orbsTo_out hin, List.getElem?_append_left (List.getElem?_eq_some_iff.1 h1).1]; exact h1
  have hf := hfirst (flN xss) hn (Nat.le_refl _)
  constructor
  · intro h1 q hq
    have hin := (Big.orbsTo_facts (aut_big hm) (flN xss) (Nat.le_refl _)).2.2.2 q hq
    obtain ⟨o, ho, hqo⟩ := List.mem_flatten.1 hin
    obtain ⟨i, hi, he⟩ := List.mem_iff_getElem.1 ho
    have : i = 0 := by omega
    subst this
    rw [List.getElem?_eq_getElem hi, he] at hf
    injection hf with hf
    subst hf
    exact (aorb_mem hm hn).1 hqo
  · intro h
    have : ∀ k, 0 < k → k ≤ flN xss → (orbsTo (autL xss) (flN xss) k).length = 1 := by
      intro k
      induction k with
      | zero => intro h; omega
      | succ k ih =>
        intro _ hk
        rcases Nat.eq_zero_or_pos k with rfl | hk0
        · rw [orbsTo_out (by simp [orbsTo])]
          simp [orbsTo]
        · rw [orbsTo_in ((aorbs_mem hm (by omega) k (by omega)).2 ⟨0, hk0, h k (by omega)⟩)]
          exact ih hk0 (by omega)
    exact this _ hn (Nat.le_refl _)
theorem regular_iff (hm : IsMan xss) : (orbsTo (autL xss) (flN xss) (flN xss)).length = 1 ↔ (autL xss).length = flN xss := (one_iff hm).trans (full_iff hm).symm
end

set_option maxHeartbeats 3200000 in
set_option maxRecDepth 8000 in
theorem sorbits_any {A : Option Addr} {c N : Nat} {xss : List (List Int)} (w : World) (hm : okMan xss = true) (hx : xss.length = N) (ha : RdSS w A xss) :
    Calls Try.prog 147 #[.agg #[.slice A N c]] w (RetN w (labL (autL xss) (flN xss)) (flN xss)) := by
  have hman := okMan_iff.1 hm
  have hpos := hman.pos hx
  obtain ⟨b, o, A0, c0, rfl, hc0⟩ := man_row0 hman ha
  have hbig := aut_big hman
  have hal := autL_len xss
  have hn4 := hman.f4
  obtain ⟨n, hn⟩ : ∃ n, flN xss = n := ⟨_, rfl⟩
  rw [hn] at hc0 hbig hal hn4 ⊢
  have HX := Lib.hid hx
  have HA := Lib.hid ha
  have HM := Lib.hid hm
  have HC0 := Lib.hid hc0
  have HBIG := Lib.hid hbig
  have st0 := (St.start w).addBlk #[.slice (some ⟨b, o, none⟩) N c] 26
  have S := Lib.hid (st0.go (below_drewN (Below.refl _ _) 1))
  have x0 := (st0.blk (i := 0) rfl).cell (i := 0) rfl
  clear st0 hx ha hm hc0 hbig hman hn
  go_enter Try.func147, Try.ntmps147
  go_wp2
  go_region_law ((first
    | (go_simp; go_at_call 129
       refine (sFlags_bel _ hpos (cell_be HC0.out S.out.below)).mono ?_
       rintro e wa ⟨rfl, belq⟩
       have Sa := Lib.hid (S.out.go belq)
       have xa := (Sa.out.blk (i := 0) rfl).cell (i := 0) rfl
       clear belq)
    | (go_simp; go_at_call 122
       refine (sauts_any _ HM.out HX.out (HA.out.keep Sa.out.below)).mono ?_
       rintro e wb ⟨A2, m, c2, rfl, hm2, own, bel⟩
       have Sb := Lib.hid (Sa.out.go bel)
       have xb := (Sb.out.blk (i := 0) rfl).cell (i := 0) rfl
       have OWN := Lib.hid own
       have HM2 := Lib.hid hm2
       have hm4 : m ≤ 1048576 := by omega
       clear bel own hm2)
    | (go_simp; go_at_call 156
       refine (Big.sorbs_any (n := n) _ HM2.out (ownSS_rd OWN.out) hm4 HBIG.out).mono ?_
       rintro e wc ⟨A3, c3, rfl, own3, bel3⟩
       have Sc := Lib.hid (Sb.out.go bel3)
       have OW3 := Lib.hid (own_base own3 Sb.out.lo)
       clear own3 bel3)))
  all_goals
    go_wp2
    go_ret
    exact ⟨A3, c3, rfl, OW3.out, Sc.out.below⟩
end Go.Proofs.Ytmikoihpmhfafaa
