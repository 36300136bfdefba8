/- Maniplexes are isomorphic exactly if they have one least form: what the law of isomorphisms asks. Plain facts. -/
import Derived.Test.YtmikoihpmhfafaaL20
import Derived.Test.YtmikoihpmhfafaaL9
import Derived.Test.YtmikoihpmhfafaaRin
namespace Go.Proofs.Ytmikoihpmhfafaa
open Go.RowKit

section
variable {xss yss : List (List Int)} {n : Nat}
theorem man_all (h : IsMan xss) : ∀ q : Nat, q < flN xss → (orbL xss (flN xss) q).length = flN xss := fun _ hq => h.all hq
theorem firO_least (hx : IsMan xss) (hy : IsMan yss) : (firO xss yss).isSome = decide (lfR xss = lfR yss) := by
  have ox := okMan_true hx
  have oy := okMan_true hy
  have x2 := hx.f2
  have y2 := hy.f2
  have ex : lfR xss = lstTo xss (flN xss) (flN xss - 1) := by rw [lfR, if_pos ox]
  have ey : lfR yss = lstTo yss (flN yss) (flN yss - 1) := by rw [lfR, if_pos oy]
  by_cases he : lfR xss = lfR yss
  · rw [decide_eq_true he]
    rw [ex, ey] at he
    obtain ⟨⟨p, hp, h1⟩, _⟩ := lst_min xss (flN xss) (flN xss - 1)
    obtain ⟨⟨q, hq, h2⟩, _⟩ := lst_min yss (flN yss) (flN yss - 1)
    rw [h1, h2] at he
    have hl : xss.length = yss.length := by have := congrArg List.length he; rwa [frmL_len, frmL_len] at this
    have hr := hx.r1
    have r1 := frmL_row (man_all hx p (by omega))
    have r2 := frmL_row (man_all hy q (by omega))
    have hf : flN xss = flN yss := by
      obtain ⟨z, hz⟩ : ∃ z, z ∈ frmL xss (flN xss) p := ⟨_, List.getElem_mem (l := frmL xss (flN xss) p) (n := 0) (by rw [frmL_len]; exact hr)⟩
      have a1 := r1 z hz
      rw [he] at hz
      exact a1.symm.trans (r2 z hz)
    have hs' := hy.sys
    have hall' := man_all hy
    rw [← hf] at he hs' hall'
    obtain ⟨L, hL, _⟩ := frm_hom hx.sys hs' (man_all hx) hall' (by omega) (by omega) he
    have h0 := hL.im 0 (by omega)
    obtain ⟨k, hk⟩ := Int.eq_ofNat_of_zero_le h0.1
    have hi := isoL_some hx.sys hl (by omega) (man_all hx 0 (by omega)) hL hk
    unfold firO
    rw [if_pos ⟨hl, hf⟩]
    cases hfi : fstI xss yss (flN xss) (flN xss) with
    | some _ => rfl
    | none =>
      have := fstI_no hfi k (by have := h0.2; rw [hk] at this; omega)
      rw [hi] at this
      cases this
  · rw [decide_eq_false he]
    cases hfo : firO xss yss with
    | none => rfl
    | some L =>
      exfalso
      apply he
      unfold firO at hfo
      split at hfo
      · rename_i hc
        obtain ⟨q, hq, hi⟩ := fstI_iff hfo
        have hL := (isoL_hom hi).1
        have hs' := hy.sys
        have hall' := man_all hy
        rw [← hc.2] at hs' hall'
        have hI := hom_iso hx.sys hs' hc.1 (by omega) hall' hL
        rw [ex, ey, ← hc.2]
        exact iso_least hI hx.sys hs' (by omega) (man_all hx)
      · cases hfo
/-- Renumbered by an isomorphism a maniplex is the other one. -/
theorem hom_ren (hs : okSys n xss = true) (hs' : okSys n yss = true) (hl : xss.length = yss.length) (hn : 0 < n) (hall : ∀ q : Nat, q < n → (orbL yss n q).length = n) {L : List Int} (h : Hom n xss yss L) : renM xss L = yss := by
  have hok := hom_ok hs hs' hl hn hall h
  apply List.ext_getElem?
  intro i
  by_cases hi : i < xss.length
  · have hg : xss[i]? = some xss[i] := List.getElem?_eq_getElem hi
    have hh : yss[i]? = some (yss[i]'(by omega)) := List.getElem?_eq_getElem (by omega)
    rw [renM_at hg, hh]
    have hr := (sys_parts hs).2.2.2 _ (List.mem_of_getElem? hg)
    have hr' := (sys_parts hs').2.2.2 _ (List.mem_of_getElem? hh)
    congr 1
    refine list_fz (conj_len h.len) (by omega) fun y h0 h1 => ?_
    obtain ⟨k, rfl⟩ := Int.eq_ofNat_of_zero_le h0
    obtain ⟨x, hx, he⟩ := hom_onto hs hs' hl hn hall h (y := k) (by omega)
    rw [← he, fz_conj (n := n) (by omega) h.len hr.2 hok (by omega) (by omega)]
    exact h.mv i _ _ hg hh x hx
  · rw [List.getElem?_eq_none (by rw [renM_length]; omega), List.getElem?_eq_none (by omega)]
/-- What the law of isomorphisms asks. -/
structure IphF (xss yss : List (List Int)) (b : Bool) : Prop where
  oX : okMan xss = true
  oY : okMan yss = true
  c : ioC xss yss = if b then 0 else 4
  ab : aiB xss yss = b ∧ aiC xss yss = 0
  ba : aiB yss xss = b ∧ aiC yss xss = 0
  lf : decide (lfR xss = lfR yss) = b
  rn : b = true → rnR xss (ioR xss yss) = yss ∧ rnC xss (ioR xss yss) = 0
theorem iphF (h : ioC xss yss = 0 ∨ ioC xss yss = 4) : ∃ b, IphF xss yss b := by
  have ho : okMan xss = true ∧ okMan yss = true := by
    apply Classical.byContradiction
    intro hn
    have : (okMan xss && okMan yss) = false := by
      cases h1 : okMan xss <;> cases h2 : okMan yss <;> simp_all
    rw [ioC, this] at h
    simp at h
  obtain ⟨ox, oy⟩ := ho
  have hx := okMan_iff.1 ox
  have hy := okMan_iff.1 oy
  have f1 := firO_least hx hy
  have f2 := firO_least hy hx
  have e2 : decide (lfR yss = lfR xss) = decide (lfR xss = lfR yss) := by
    by_cases he : lfR xss = lfR yss
    · rw [decide_eq_true he, decide_eq_true he.symm]
    · rw [decide_eq_false he, decide_eq_false fun e => he e.symm]
  rw [e2] at f2
  refine ⟨decide (lfR xss = lfR yss), ox, oy, ?_, ⟨?_, ?_⟩, ⟨?_, ?_⟩, rfl, fun hb => ?_⟩
  · rw [ioC, ox, oy, f1]; rfl
  · rw [aiB, ox, oy, f1]; rfl
  · rw [aiC, ox, oy]; rfl
  · rw [aiB, ox, oy, f2]; rfl
  · rw [aiC, ox, oy]; rfl
  · rw [hb] at f1
    obtain ⟨L, hL⟩ := Option.isSome_iff_exists.1 f1
    have hR : ioR xss yss = L := by rw [ioR, ox, oy, hL]; rfl
    rw [hR]
    have hfo := hL
    unfold firO at hfo
    split at hfo
    · rename_i hc
      obtain ⟨q, hq, hi⟩ := fstI_iff hfo
      have hH := (isoL_hom hi).1
      have hs' := hy.sys
      have hall' := man_all hy
      have x2 := hx.f2
      rw [← hc.2] at hs' hall'
      have hok := hom_ok hx.sys hs' hc.1 (by omega) hall' hH
      have hlen := hH.len
      refine ⟨?_, ?_⟩
      · rw [rnR, if_pos ox, if_pos ⟨hlen, hok⟩]
        exact hom_ren hx.sys hs' hc.1 (by omega) hall' hH
      · rw [rnC, if_pos ox, if_pos ⟨hlen, hok⟩]
    · cases hfo
end
end Go.Proofs.Ytmikoihpmhfafaa
