/- Systems that are the same up to the numbers of their points have equally many orbits; sections at flags of one orbit; a section is a maniplex. Plain facts. -/
import Derived.Test.YtckmmgepoccopaaSdu
namespace Go.Proofs.Ytckmmgepoccopaa
open Go.RowKit

section
variable {xss yss : List (List Int)} {n : Nat}
/-- A point's orbit lies in the orbit of each of its points. -/
theorem orb_same (hsys : okSys n xss = true) {p q : Nat} (hp : p < n) (hq : q < n) (hm : (q : Int) ∈ orbL xss n p) : (p : Int) ∈ orbL xss n q ∧ ∀ z ∈ orbL xss n p, z ∈ orbL xss n q := by
  obtain ⟨ppa, ppm, pcl⟩ := orb_facts hsys hp
  obtain ⟨qpa, qpm, qcl⟩ := orb_facts hsys hq
  have hpm : (p : Int) ∈ orbL xss n q := by
    apply Classical.byContradiction
    intro hn
    have o2 := (orb_aside hsys qpa qcl hp hn).2.1
    exact (List.nodup_append.1 o2.2).2.2 _ qpm _ hm rfl
  exact ⟨hpm, orb_sub qcl hpm⟩
/-- A renumbering of the points that takes the one system over into the other one. -/
structure IsoS (n : Nat) (xss yss : List (List Int)) (φ : Nat → Nat) : Prop where
  len : xss.length = yss.length
  im : ∀ k, k < n → φ k < n
  inj : ∀ j k, j < n → k < n → φ j = φ k → j = k
  mv : ∀ (i : Nat) (g h : List Int), xss[i]? = some g → yss[i]? = some h → ∀ k : Nat, k < n → ((φ (fz g k).toNat : Nat) : Int) = fz h (φ k : Int)
variable {φ : Nat → Nat}
theorem IsoS.erase (h : IsoS n xss yss φ) (i : Nat) : IsoS n (xss.eraseIdx i) (yss.eraseIdx i) φ := by
  refine ⟨by rw [List.length_eraseIdx, List.length_eraseIdx, h.len], h.im, h.inj, fun j g g' hg hg' k hk => ?_⟩
  rw [List.getElem?_eraseIdx] at hg hg'
  split at hg
  · rename_i h1
    rw [if_pos h1] at hg'
    exact h.mv j g g' hg hg' k hk
  · rename_i h1
    rw [if_neg h1] at hg'
    exact h.mv _ g g' hg hg' k hk
theorem iso_orb (h : IsoS n xss yss φ) (hsys : okSys n xss = true) {p q : Nat} (hp : p < n) (hq : q < n) (hm : (φ q : Int) ∈ orbL yss n (φ p)) : (q : Int) ∈ orbL xss n p := by
  obtain ⟨ppa, ppm, pcl⟩ := orb_facts hsys hp
  have hcl : Closed yss ((orbL xss n p).map fun x => ((φ x.toNat : Nat) : Int)) := by
    intro g' hg' x' hx'
    obtain ⟨x, hx, rfl⟩ := List.mem_map.1 hx'
    obtain ⟨k, rfl⟩ := Int.eq_ofNat_of_zero_le (ppa.1 x hx).1
    have hk := (ppa.1 _ hx).2
    obtain ⟨i, hi, hgi⟩ := List.mem_iff_getElem.1 hg'
    have hil : i < xss.length := by rw [h.len]; exact hi
    have h1 := h.mv i xss[i] g' (List.getElem?_eq_getElem hil) (by rw [List.getElem?_eq_getElem hi, hgi]) k (by omega)
    refine List.mem_map.2 ⟨fz xss[i] k, pcl _ (List.getElem_mem hil) _ hx, ?_⟩
    rw [h1, Int.toNat_natCast]
  have hin := orb_sub (n := n) (q := φ p) hcl (List.mem_map.2 ⟨(p : Int), ppm, by simp⟩) _ hm
  obtain ⟨x, hx, he⟩ := List.mem_map.1 hin
  obtain ⟨k, rfl⟩ := Int.eq_ofNat_of_zero_le (ppa.1 x hx).1
  have hk := (ppa.1 _ hx).2
  have : k = q := h.inj k q (by omega) hq (by simp at he; omega)
  subst this
  exact hx
theorem iso_cnt_le (h : IsoS n xss yss φ) (hs : okSys n xss = true) (hs' : okSys n yss = true) (hn : 0 < n) : (orbsTo xss n n).length ≤ (orbsTo yss n n).length := by
  obtain ⟨k', hk'⟩ : ∃ k, (orbsTo yss n n).length = k := ⟨_, rfl⟩
  have hex : ∀ i : Nat, ∃ p : Nat, i < (orbsTo xss n n).length → p < n ∧ (orbsTo xss n n)[i]? = some (orbL xss n p) := fun i => by
    by_cases hi : i < (orbsTo xss n n).length
    · have hg := List.getElem?_eq_getElem hi
      obtain ⟨p, hp, he⟩ := orbsTo_of n (List.mem_of_getElem? hg)
      exact ⟨p, fun _ => ⟨hp, by rw [hg, he]⟩⟩
    · exact ⟨0, fun h => absurd h hi⟩
  obtain ⟨r, hr⟩ : ∃ r : Nat → Nat, ∀ i : Nat, i < (orbsTo xss n n).length → r i < n ∧ (orbsTo xss n n)[i]? = some (orbL xss n (r i)) := ⟨fun i => (hex i).choose, fun i => (hex i).choose_spec⟩
  have hlab : ∀ i, i < (orbsTo xss n n).length → ∃ j : Nat, (labL yss n)[φ (r i)]? = some (j : Int) ∧ j < k' := fun i hi => lab_at hs' hn hk' (h.im _ (hr i hi).1)
  have hnd : ((List.range (orbsTo xss n n).length).map fun i => (labL yss n).getD (φ (r i)) 0).Nodup := by
    refine List.pairwise_map.2 (List.Pairwise.imp_of_mem ?_ (List.nodup_range (n := (orbsTo xss n n).length)))
    intro a b ha hb hab he
    have ha : a < (orbsTo xss n n).length := by simpa using ha
    have hb : b < (orbsTo xss n n).length := by simpa using hb
    obtain ⟨ja, h1, _⟩ := hlab a ha
    obtain ⟨jb, h2, _⟩ := hlab b hb
    have hjj : ja = jb := by
      simp only [List.getD, h1, h2] at he
      simp at he
      omega
    subst hjj
    obtain ⟨ra, hra⟩ := hr a ha
    obtain ⟨rb, hrb⟩ := hr b hb
    obtain ⟨o, ho, hao⟩ := (lab_iff hs' (h.im _ ra)).1 h1
    obtain ⟨o2, ho2, hbo⟩ := (lab_iff hs' (h.im _ rb)).1 h2
    rw [ho] at ho2
    injection ho2 with ho2
    subst ho2
    obtain ⟨q, hq, rfl⟩ := orbsTo_of n (List.mem_of_getElem? ho)
    have hab2 := (orb_same hs' hq (h.im _ ra) hao).2 _ hbo
    have hin := iso_orb h hs ra rb hab2
    have l1 := (lab_iff hs rb).2 ⟨_, hra, hin⟩
    have l2 := (lab_iff hs rb).2 ⟨_, hrb, (orb_facts hs rb).2.1⟩
    rw [l1] at l2
    simp at l2
    exact hab (by omega)
  have hsub : ((List.range (orbsTo xss n n).length).map fun i => (labL yss n).getD (φ (r i)) 0) ⊆ (List.range k').map fun (j : Nat) => (j : Int) := by
    intro x hx
    obtain ⟨i, hi, rfl⟩ := List.mem_map.1 hx
    obtain ⟨j, h1, h2⟩ := hlab i (by simpa using hi)
    exact List.mem_map.2 ⟨j, by simpa using h2, by simp [List.getD, h1]⟩
  have := List.Nodup.length_le_of_subset hnd hsub
  simp at this
  omega
theorem iso_fac_le (h : IsoS n xss yss φ) (hs : okSys n xss = true) (hs' : okSys n yss = true) (hn : 0 < n) (i : Nat) : grtL (facL xss n i) ≤ grtL (facL yss n i) := by
  unfold facL
  rw [lab_cnt (okSys_erase hs i) hn, lab_cnt (okSys_erase hs' i) hn]
  have := iso_cnt_le (h.erase i) (okSys_erase hs i) (okSys_erase hs' i) hn
  omega
end

section
variable {yss : List (List Int)} {n f f' l : Nat}
/-- The renumbering of the section at f to that at another flag of its orbit. -/
def secPhi (ord ord' : List Int) (k : Nat) : Nat := (idxL ord' (ord.getD k 0)).toNat
theorem sec_iso (hsys : okSys n yss = true) (hf : f < n) (hf' : f' < n) (hl : (orbL yss n f).length = l) (hm : (f' : Int) ∈ orbL yss n f) : IsoS l (secL yss n f) (secL yss n f') (secPhi (orbL yss n f) (orbL yss n f')) := by
  have hl' : (orbL yss n f').length = l := by rw [← hl]; exact orb_mem hsys hf hf' hm
  obtain ⟨hpa, hfm, hcl⟩ := orb_facts hsys hf
  obtain ⟨hpa', hfm', hcl'⟩ := orb_facts hsys hf'
  have hsub := (orb_same hsys hf hf' hm).2
  obtain ⟨ord, hord⟩ : ∃ o, orbL yss n f = o := ⟨_, rfl⟩
  obtain ⟨ord', hord'⟩ : ∃ o, orbL yss n f' = o := ⟨_, rfl⟩
  unfold secL
  rw [hord] at hpa hfm hcl hl hsub ⊢
  rw [hord'] at hpa' hcl' hl' hsub ⊢
  have hat : ∀ k : Nat, k < l → ∃ x, ord[k]? = some x ∧ x ∈ ord' := fun k hk => by
    have h1 := List.getElem?_eq_getElem (show k < ord.length by omega)
    exact ⟨_, h1, hsub _ (List.mem_of_getElem? h1)⟩
  have hphi : ∀ k : Nat, k < l → ∀ x, ord[k]? = some x → ((secPhi ord ord' k : Nat) : Int) = idxL ord' x := fun k hk x hx => by
    obtain ⟨x', hx', hxm⟩ := hat k hk
    rw [hx] at hx'
    injection hx' with hx'
    subst hx'
    have h0 : 0 ≤ idxL ord' x := by simpa [hxm] using idxL_mem ord' x
    unfold secPhi
    rw [List.getD, hx]
    simp
    omega
  refine ⟨by simp, fun k hk => ?_, fun j k hj hk he => ?_, fun i g h hg hh k hk => ?_⟩
  · obtain ⟨x, hx, hxm⟩ := hat k hk
    have h1 := hphi k hk x hx
    have h2 := (idxL_bd ord' x).2
    omega
  · obtain ⟨x, hx, hxm⟩ := hat j hj
    obtain ⟨y, hy, hym⟩ := hat k hk
    have h1 := hphi j hj x hx
    have h2 := hphi k hk y hy
    have hxy := idxL_inj hxm hym (by omega)
    subst hxy
    have e1 := (List.getElem?_eq_some_iff.1 hx)
    have e2 := (List.getElem?_eq_some_iff.1 hy)
    exact (List.getElem_inj hpa.2).1 (e1.2.trans e2.2.symm)
  · rw [List.getElem?_map] at hg hh
    obtain ⟨m, hmi, rfl⟩ := Option.map_eq_some_iff.1 hg
    rw [hmi] at hh
    simp only [Option.map_some, Option.some.injEq] at hh
    subst hh
    have hmm := List.mem_of_getElem? hmi
    obtain ⟨x, hx, hxm⟩ := hat k hk
    have hxo := List.mem_of_getElem? hx
    have e1 : fz (secRow ord m) (k : Int) = idxL ord (fz m x) := fz_at (by simp [secRow, hx])
    have hgo := hcl m hmm x hxo
    have hgi := idxL_get hgo
    have hb := (idxL_bd ord (fz m x)).2
    have h0 : 0 ≤ idxL ord (fz m x) := by simpa [hgo] using idxL_mem ord (fz m x)
    rw [e1, hphi _ (by omega) _ hgi]
    have hp1 := hphi k hk x hx
    have hix := idxL_get hxm
    rw [hp1]
    have e2 : idxL ord' x = (((idxL ord' x).toNat : Nat) : Int) := by
      have : 0 ≤ idxL ord' x := by simpa [hxm] using idxL_mem ord' x
      omega
    rw [e2]
    exact (fz_at (by simp [secRow, hix])).symm
theorem sec_fac (hsys : okSys n yss = true) (hf : f < n) (hf' : f' < n) (hl : (orbL yss n f).length = l) (hm : (f' : Int) ∈ orbL yss n f) (i : Nat) : grtL (facL (secL yss n f) l i) = grtL (facL (secL yss n f') l i) := by
  have hl' : (orbL yss n f').length = l := by rw [← hl]; exact orb_mem hsys hf hf' hm
  have hm' := (orb_same hsys hf hf' hm).1
  have hpos : 0 < l := by rw [← hl]; exact List.length_pos_of_mem (orb_facts hsys hf).2.1
  have h1 := iso_fac_le (sec_iso hsys hf hf' hl hm) (secL_sys hsys hf hl) (secL_sys hsys hf' hl') hpos i
  have h2 := iso_fac_le (sec_iso hsys hf' hf hl' hm') (secL_sys hsys hf' hl') (secL_sys hsys hf hl) hpos i
  omega
theorem sec_chi {xss : List (List Int)} {i : Nat} (hsys : okSys n xss = true) (hf : f < n) (hf' : f' < n) (hm : (f' : Int) ∈ orbL ((xss.drop i).take 3) n f) : secChi xss n f i = secChi xss n f' i := by
  have hy := okSys_cut hsys i 3
  unfold secChi
  rw [orb_mem hy hf hf' hm]
  congr 1
  unfold cntTo
  refine List.map_congr_left fun j _ => ?_
  exact sec_fac hy hf hf' rfl hm j
end

section
variable {xss : List (List Int)} {i q f : Nat}
/-- A section of a maniplex is a maniplex. -/
theorem sec_man (h : IsMan xss) (hf : f < flN xss) (hi : i + q ≤ xss.length) (hq : 1 ≤ q) : IsMan (secL ((xss.drop i).take q) (flN xss) f) := by
  obtain ⟨n, hn⟩ : ∃ n, flN xss = n := ⟨_, rfl⟩
  have hsys := h.sys
  have hrow := h.row
  have hsq := h.sq
  have hr5 := h.r5
  have hf4 := h.f4
  rw [hn] at hf hsys hrow hsq hf4 ⊢
  obtain ⟨yss, hy⟩ : ∃ y, (xss.drop i).take q = y := ⟨_, rfl⟩
  have hys : okSys n yss = true := by rw [← hy]; exact okSys_cut hsys _ _
  have hyl : yss.length = q := by rw [← hy]; simp; omega
  have hyat : ∀ (j : Nat) (g : List Int), yss[j]? = some g → xss[i + j]? = some g := fun j g hg => by
    rw [← hy, List.getElem?_take] at hg
    split at hg
    · rwa [List.getElem?_drop] at hg
    · simp at hg
  rw [hy]
  obtain ⟨hpa, hfm, hcl⟩ := orb_facts hys hf
  obtain ⟨l, hl⟩ : ∃ l, (orbL yss n f).length = l := ⟨_, rfl⟩
  have hln : l ≤ n := by rw [← hl]; exact passed_len hpa
  have hss := secL_sys hys hf hl
  have hfl : flN (secL yss n f) = l := by rw [secL_fl (by omega), hl]
  have hl0 : 0 < l := by rw [← hl]; exact List.length_pos_of_mem hfm
  have hall := secL_all hys hf hl hl0
  obtain ⟨ord, hord⟩ : ∃ o, orbL yss n f = o := ⟨_, rfl⟩
  have hsec : secL yss n f = yss.map (secRow ord) := by rw [secL, hord]
  rw [hord] at hpa hfm hcl hl
  have hat : ∀ k : Nat, k < l → ∃ x, ord[k]? = some x := fun k hk => ⟨_, List.getElem?_eq_getElem (by omega)⟩
  have hin : ∀ x, x ∈ ord → ∃ k : Nat, x = (k : Int) ∧ k < n := fun x hx => by
    have := hpa.1 x hx
    obtain ⟨k, rfl⟩ := Int.eq_ofNat_of_zero_le this.1
    exact ⟨k, rfl, by omega⟩
  have hix : ∀ (k : Nat) (x : Int), ord[k]? = some x → idxL ord x = (k : Int) := fun k x hx => idx_nodup hpa.2 hx
  have hmx : ∀ m ∈ yss, m.length = n ∧ okP m = true ∧ freeP m = true := fun m hm => by
    obtain ⟨j, hj⟩ := List.mem_iff_getElem?.1 hm
    exact hrow m (List.mem_of_getElem? (hyat j m hj))
  have hfree : ∀ m ∈ yss, ∀ x ∈ ord, fz m x ≠ x ∧ fz m (fz m x) = x := fun m hm x hx => by
    obtain ⟨k, rfl, hk⟩ := hin x hx
    obtain ⟨h1, h2, h3⟩ := hmx m hm
    refine ⟨fun he => ?_, free_inv h1 h2 h3 hk⟩
    have hg := List.getElem?_eq_getElem (show k < m.length by omega)
    have h4 := (@of_decide_eq_true _ (Classical.propDecidable _) h3) k (by omega)
    rw [fz_at hg] at he
    exact h4.1 (by rw [hg, he])
  refine ⟨by rw [secL_len]; omega, by rw [secL_len]; omega, ?_, by rw [hfl]; omega, fun xs hx => ?_, fun a b p q2 hab hp hq2 => ?_, by rw [hfl]; exact hall⟩
  · rw [hfl]
    obtain ⟨m, hm⟩ : ∃ m, yss[0]? = some m := ⟨_, List.getElem?_eq_getElem (by omega)⟩
    have hmm := List.mem_of_getElem? hm
    have h1 := hcl m hmm _ hfm
    have h2 := (hfree m hmm _ hfm).1
    apply Classical.byContradiction
    intro hlt
    have h3 : l = 1 := by omega
    rw [h3] at hl
    obtain ⟨x, hx⟩ := List.length_eq_one_iff.1 hl
    rw [hx] at h1 hfm
    simp at h1 hfm
    exact h2 (by rw [h1, hfm])
  · rw [hfl]
    have h1 := (sys_parts hss).2.2.2 xs hx
    refine ⟨by omega, h1.2, ?_⟩
    rw [hsec] at hx
    obtain ⟨m, hm, rfl⟩ := List.mem_map.1 hx
    refine @decide_eq_true _ (Classical.propDecidable _) fun k hk => ?_
    rw [secRow_len, hl] at hk
    obtain ⟨x, hx⟩ := hat k hk
    have hxm := List.mem_of_getElem? hx
    have hgo := hcl m hm x hxm
    have e1 : (secRow ord m)[k]? = some (idxL ord (fz m x)) := by simp [secRow, hx]
    refine ⟨fun he => ?_, fun m' he => ?_⟩
    · rw [e1] at he
      injection he with he
      have := idxL_inj hgo hxm (by rw [he, hix k x hx])
      exact (hfree m hm x hxm).1 this
    · rw [e1] at he
      injection he with he
      have h2 := idxL_get hgo
      rw [he] at h2
      have h2 : ord[m']? = some (fz m x) := by simpa using h2
      have e2 : (secRow ord m)[m']? = some (idxL ord (fz m (fz m x))) := by simp [secRow, h2]
      rw [e2, (hfree m hm x hxm).2, hix k x hx]
  · rw [hfl]
    rw [hsec, List.getElem?_map] at hp hq2
    obtain ⟨ma, hma, rfl⟩ := Option.map_eq_some_iff.1 hp
    obtain ⟨mb, hmb, rfl⟩ := Option.map_eq_some_iff.1 hq2
    have hsq2 := hsq (i + a) (i + b) ma mb (by omega) (hyat a ma hma) (hyat b mb hmb)
    have haM := List.mem_of_getElem? hma
    have hbM := List.mem_of_getElem? hmb
    intro k hk
    obtain ⟨x, hx⟩ := hat k hk
    have hxm := List.mem_of_getElem? hx
    have ga := hcl ma haM x hxm
    have gb := hcl mb hbM x hxm
    have ea : ∀ (j : Nat) (y : Int), ord[j]? = some y → fz (secRow ord ma) (j : Int) = idxL ord (fz ma y) := fun j y hy => fz_at (by simp [secRow, hy])
    have eb : ∀ (j : Nat) (y : Int), ord[j]? = some y → fz (secRow ord mb) (j : Int) = idxL ord (fz mb y) := fun j y hy => fz_at (by simp [secRow, hy])
    have ia : idxL ord (fz ma x) = (((idxL ord (fz ma x)).toNat : Nat) : Int) := by
      have : 0 ≤ idxL ord (fz ma x) := by simpa [ga] using idxL_mem ord (fz ma x)
      omega
    have ib : idxL ord (fz mb x) = (((idxL ord (fz mb x)).toNat : Nat) : Int) := by
      have : 0 ≤ idxL ord (fz mb x) := by simpa [gb] using idxL_mem ord (fz mb x)
      omega
    obtain ⟨kx, rfl, hkx⟩ := hin x hxm
    have h1 := hsq2 kx hkx
    rw [ea k _ hx, eb k _ hx]
    refine ⟨fun he => h1.1 (idxL_inj ga gb he), ?_⟩
    rw [ib, ia, ea _ _ (idxL_get gb), eb _ _ (idxL_get ga), h1.2]
end
end Go.Proofs.Ytckmmgepoccopaa
