/- A maniplex with its flags renumbered is a maniplex with the same least form, numbers of faces, type, colours and diameter. Plain facts. -/
import Derived.Test.YtmgoaabeopnopaaTri
import Derived.Test.YtmgoaabeopnopaaL17
namespace Go.Proofs.Ytmgoaabeopnopaa
open Go.RowKit

section
variable {xss yss : List (List Int)} {n : Nat} {φ : Nat → Nat}
theorem fz_some2 {g : List Int} {k : Nat} (hl : g.length = n) (hk : k < n) : g[k]? = some (fz g (k : Int)) := by
  have h := List.getElem?_eq_getElem (show k < g.length by omega)
  rw [h, fz_at h]
theorem free_iff {g : List Int} (hl : g.length = n) (hp : okP g = true) : freeP g = true ↔ ∀ k : Nat, k < n → fz g k ≠ (k : Int) ∧ fz g (fz g k) = (k : Int) := by
  constructor
  · intro h k hk
    have h1 := (@of_decide_eq_true _ (Classical.propDecidable _) h) k (by omega)
    rw [fz_some2 hl hk] at h1
    exact ⟨fun e => h1.1 (by rw [e]), free_inv hl hp h hk⟩
  · intro h
    refine @decide_eq_true _ (Classical.propDecidable _) fun k hk => ?_
    have hk : k < n := by omega
    obtain ⟨h1, h2⟩ := h k hk
    rw [fz_some2 hl hk]
    refine ⟨fun e => h1 (by simpa using e), fun m hm => ?_⟩
    have hm : fz g k = (m : Int) := by simpa using hm
    rw [hm] at h2
    have hi := fz_in hl hp (x := (k : Int)) (by omega) (by omega)
    rw [fz_some2 hl (show m < n by omega), h2]
theorem iso_man (h : IsoS n xss yss φ) (hm : IsMan xss) (hn : flN xss = n) (hs' : okSys n yss = true) (hn' : flN yss = n) : IsMan yss := by
  have hs := hm.sys
  rw [hn] at hs
  have hrow : ∀ (i : Nat) (g' : List Int), yss[i]? = some g' → ∃ g, xss[i]? = some g ∧ ∀ j : Nat, j < n → fz g' (φ j : Int) = ((φ (fz g j).toNat : Nat) : Int) := fun i g' hg' => by
    have hi := (List.getElem?_eq_some_iff.1 hg').1
    have hix : i < xss.length := by rw [h.len]; exact hi
    exact ⟨xss[i], List.getElem?_eq_getElem hix, fun j hj => (h.mv i _ g' (List.getElem?_eq_getElem hix) hg' j hj).symm⟩
  have him : ∀ g ∈ xss, ∀ j : Nat, j < n → 0 ≤ fz g j ∧ fz g j < (n : Int) := fun g hg j hj => sys_img hs hg (by omega) (by omega)
  have hfree : ∀ g ∈ xss, ∀ j : Nat, j < n → fz g j ≠ (j : Int) ∧ fz g (fz g j) = (j : Int) := fun g hg => by
    have hr := hm.row g hg
    rw [hn] at hr
    exact (free_iff hr.1 hr.2.1).1 hr.2.2
  refine ⟨by rw [← h.len]; exact hm.r1, by rw [← h.len]; exact hm.r5, by rw [hn', ← hn]; exact hm.f2, by rw [hn', ← hn]; exact hm.f4, fun g' hg' => ?_, fun i k p q hik hp hq => ?_, ?_⟩
  · have hr := (sys_parts hs').2.2.2 g' hg'
    have hl : g'.length = n := by omega
    rw [hn']
    refine ⟨hl, hr.2, (free_iff hl hr.2).2 fun k hk => ?_⟩
    obtain ⟨i, hi⟩ := List.mem_iff_getElem?.1 hg'
    obtain ⟨g, hg, hgm⟩ := hrow i g' hi
    have hgx := List.mem_of_getElem? hg
    obtain ⟨j, hj, rfl⟩ := inj_onto h.im h.inj hk
    have h1 := him g hgx j hj
    obtain ⟨y, hy⟩ := Int.eq_ofNat_of_zero_le h1.1
    obtain ⟨h2, h3⟩ := hfree g hgx j hj
    have e1 := hgm j hj
    rw [hy, Int.toNat_natCast] at e1
    rw [hy] at h2 h3 h1
    have e2 := hgm y (by omega)
    rw [h3, Int.toNat_natCast] at e2
    refine ⟨fun e => ?_, by rw [e1, e2]⟩
    rw [e1] at e
    have := h.inj y j (by omega) hj (by omega)
    omega
  · rw [hn']
    intro f hf
    obtain ⟨j, hj, rfl⟩ := inj_onto h.im h.inj hf
    obtain ⟨a, ha, ham⟩ := hrow i p hp
    obtain ⟨b, hb, hbm⟩ := hrow k q hq
    have hsq := hm.sq i k a b hik ha hb
    rw [hn] at hsq
    obtain ⟨h1, h2⟩ := hsq j hj
    obtain ⟨u, hu⟩ := Int.eq_ofNat_of_zero_le (him a (List.mem_of_getElem? ha) j hj).1
    obtain ⟨v, hv⟩ := Int.eq_ofNat_of_zero_le (him b (List.mem_of_getElem? hb) j hj).1
    have hun := (him a (List.mem_of_getElem? ha) j hj).2
    have hvn := (him b (List.mem_of_getElem? hb) j hj).2
    have e1 := ham j hj
    have e2 := hbm j hj
    rw [hu, Int.toNat_natCast] at e1
    rw [hv, Int.toNat_natCast] at e2
    rw [hu, hv] at h1 h2
    refine ⟨fun e => ?_, ?_⟩
    · rw [e1, e2] at e
      have := h.inj u v (by omega) (by omega) (by omega)
      omega
    · rw [e1, e2, ham v (by omega), hbm u (by omega), h2]
  · rw [hn']
    have h2 := hm.f2
    obtain ⟨p, hp, h0⟩ := inj_onto h.im h.inj (show 0 < n by omega)
    have ho := (tr_orb (h.tr hs) (n := n) (x := (p : Int)) ⟨by omega, by omega⟩).2
    have hl := congrArg List.length ho
    rw [List.length_map, show (p : Int).toNat = p by simp, h0] at hl
    have ha := hm.all (q := p) (by omega)
    rw [hn] at ha
    exact hl.symm.trans ha
theorem iso_cnt (h : IsoS n xss yss φ) (hs : okSys n xss = true) (hs' : okSys n yss = true) (hn : 0 < n) (k : Nat) : cntTo xss n k = cntTo yss n k := by
  obtain ⟨φ', h', _⟩ := h.symm hs hs'
  unfold cntTo
  refine List.map_congr_left fun i _ => ?_
  exact Int.le_antisymm (iso_fac_le h hs hs' hn i) (iso_fac_le h' hs' hs hn i)
end
/-- What FnRenumbered asks of a maniplex and of another one that is the same up to the numbers of its flags. -/
structure Same (xss yss : List (List Int)) : Prop where
  man : IsMan yss
  fl : flN yss = flN xss
  len : yss.length = xss.length
  lf : lfR yss = lfR xss
  fc : fcR yss = fcR xss
  ty : tyR yss = tyR xss
  iso : isoR yss = isoR xss
  dia : diR yss = diR xss
theorem same_of {xss yss : List (List Int)} {n : Nat} {φ : Nat → Nat} (h : IsoS n xss yss φ) (hm : IsMan xss) (hn : flN xss = n) (hs' : okSys n yss = true) (hn' : flN yss = n) : Same xss yss := by
  have hm' := iso_man h hm hn hs' hn'
  have hs := hm.sys
  have ha := fun q (hq : q < flN xss) => hm.all hq
  have ha' := fun q (hq : q < flN yss) => hm'.all hq
  have h2 := hm.f2
  rw [hn] at hs ha h2
  rw [hn'] at ha'
  have o1 := okMan_true hm
  have o2 := okMan_true hm'
  obtain ⟨φ', h', _⟩ := h.symm hs hs'
  refine ⟨hm', by rw [hn, hn'], h.len.symm, ?_, ?_, ?_, ?_, ?_⟩
  · unfold lfR
    rw [if_pos o1, if_pos o2, hn, hn']
    exact (iso_least h hs hs' (by omega) ha).symm
  · unfold fcR
    rw [if_pos o1, if_pos o2, hn, hn', h.len]
    exact (iso_cnt h hs hs' (by omega) _).symm
  · unfold tyR
    rw [if_pos o1, if_pos o2, hn, hn', h.len]
    exact (iso_ty h hs _).symm
  · unfold isoR
    rw [if_pos o1, if_pos o2, hn, hn']
    cases hc : colB xss n
    · cases hc' : colB yss n
      · rfl
      · have := iso_col h' hs' hs (by omega) (ha 0 (by omega)) hc'
        rw [hc] at this
        cases this
    · exact iso_col h hs hs' (by omega) (ha' 0 (by omega)) hc
  · unfold diR
    rw [if_pos o1, if_pos o2, hn, hn']
    exact (iso_dia h hs hs' ha ha').symm
theorem ren_same {xss : List (List Int)} {p : List Int} (hm : IsMan xss) (hp : p.length = flN xss) (hok : okP p = true) : Same xss (renM xss p) := by
  have hs := hm.sys
  have h4 := hm.f4
  have h1 := hm.r1
  have h5 := hm.r5
  have hrow := renM_row (xss := xss) hp
  have hs' : okSys (flN xss) (renM xss p) = true := decide_eq_true ⟨by omega, by omega, by rw [renM_length]; omega, fun xs hx => by
    obtain ⟨m, hmm, rfl⟩ := List.mem_map.1 hx
    have hr := hm.row m hmm
    exact ⟨by rw [conj_len hp], okP_conj hr.1 hp hr.2.1 hok⟩⟩
  have hfl : flN (renM xss p) = flN xss := by
    have hl : 0 < (renM xss p).length := by rw [renM_length]; omega
    rw [fl_of (List.getElem?_eq_getElem hl)]
    exact hrow _ (List.getElem_mem hl)
  exact same_of (ren_iso hs hp hok) hm rfl hs' hfl
theorem frm_same {xss : List (List Int)} {p : Nat} (hm : IsMan xss) (hp : p < flN xss) : Same xss (frmL xss (flN xss) p) := by
  have hall := hm.all hp
  exact ren_same hm (inv_orb_len hall) (okP_inv (okP_orb hm.sys hp hall))
/-- The least form is not greater than a form. -/
theorem least_le {xss : List (List Int)} {p : Nat} (hm : IsMan xss) (hp : p < flN xss) : cmpLL (lfR xss) (frmL xss (flN xss) p) ≤ 0 := by
  unfold lfR
  rw [if_pos (okMan_true hm)]
  exact (lst_min xss (flN xss) (flN xss - 1)).2 p (by omega)
end Go.Proofs.Ytmgoaabeopnopaa
