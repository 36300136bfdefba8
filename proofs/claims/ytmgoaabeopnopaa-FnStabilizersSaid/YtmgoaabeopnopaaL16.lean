import Derived.Test.YtmgoaabeopnopaaL15
import Derived.Test.YtmgoaabeopnopaaL12
import Derived.Test.YtmgoaabeopnopaaL5
import Derived.Test.YtmgoaabeopnopaaL8
import Derived.Test.YtmgoaabeopnopaaL14
import Derived.Deep.RegionLaw
import Derived.Deep.DeepMust
/- Systems that are the same up to the numbers of their points have equally many orbits; sections at flags of one orbit; a section is a maniplex. Plain facts. -/
namespace Go.Proofs.Ytmgoaabeopnopaa
open Go.RowKit

section
variable {xss yss : List (List Int)} {n : Nat}
/-- A point's orbit lies in the orbit of each of its points. -/
theorem orb_same (hsys : okSys n xss = true) {p q : Nat} (hp : p < n) (hq : q < n) (hm : (q : Int) ∈ orbL xss n p) : (p : Int) ∈ orbL xss n q ∧ ∀ z ∈ orbL xss n p, z ∈ orbL xss n q := by
  obtain ⟨ppa, ppm, pcl⟩ := orb_facts hsys hp
  obtain ⟨qpa, qpm, qcl⟩ := orb_facts hsys hq
  have hpm : (p : Int) ∈ orbL xss n q := by
    apply Classical.byContradiction
    intro hn
    have o2 := (orb_aside hsys qpa qcl hp hn).2.1
    exact (List.nodup_append.1 o2.2).2.2 _ qpm _ hm rfl
  exact ⟨hpm, orb_sub qcl hpm⟩
/-- A renumbering of the points that takes the one system over into the other one. -/
structure IsoS (n : Nat) (xss yss : List (List Int)) (φ : Nat → Nat) : Prop where
  len : xss.length = yss.length
  im : ∀ k, k < n → φ k < n
  inj : ∀ j k, j < n → k < n → φ j = φ k → j = k
  mv : ∀ (i : Nat) (g h : List Int), xss[i]? = some g → yss[i]? = some h → ∀ k : Nat, k < n → ((φ (fz g k).toNat : Nat) : Int) = fz h (φ k : Int)
variable {φ : Nat → Nat}
theorem IsoS.erase (h : IsoS n xss yss φ) (i : Nat) : IsoS n (xss.eraseIdx i) (yss.eraseIdx i) φ := by
  refine ⟨by rw [List.length_eraseIdx, List.length_eraseIdx, h.len], h.im, h.inj, fun j g g' hg hg' k hk => ?_⟩
  rw [List.getElem?_eraseIdx] at hg hg'
  split at hg
  · rename_i h1
    rw [if_pos h1] at hg'
    exact h.mv j g g' hg hg' k hk
  · rename_i h1
    rw [if_neg h1] at hg'
    exact h.mv _ g g' hg hg' k hk
theorem iso_orb (h : IsoS n xss yss φ) (hsys : okSys n xss = true) {p q : Nat} (hp : p < n) (hq : q < n) (hm : (φ q : Int) ∈ orbL yss n (φ p)) : (q : Int) ∈ orbL xss n p := by
  obtain ⟨ppa, ppm, pcl⟩ := orb_facts hsys hp
  have hcl : Closed yss ((orbL xss n p).map fun x => ((φ x.toNat : Nat) : Int)) := by
    intro g' hg' x' hx'
    obtain ⟨x, hx, rfl⟩ := List.mem_map.1 hx'
    obtain ⟨k, rfl⟩ := Int.eq_ofNat_of_zero_le (ppa.1 x hx).1
    have hk := (ppa.1 _ hx).2
    obtain ⟨i, hi, hgi⟩ := List.mem_iff_getElem.1 hg'
    have hil : i < xss.length := by rw [h.len]; exact hi
    have h1 := h.mv i xss[i] g' (List.getElem?_eq_getElem hil) (by rw [List.getElem?_eq_getElem hi, hgi]) k (by omega)
    refine List.mem_map.2 ⟨fz xss[i] k, pcl _ (List.getElem_mem hil) _ hx, ?_⟩
    rw [h1, Int.toNat_natCast]
  have hin := orb_sub (n := n) (q := φ p) hcl (List.mem_map.2 ⟨(p : Int), ppm, by simp⟩) _ hm
  obtain ⟨x, hx, he⟩ := List.mem_map.1 hin
  obtain ⟨k, rfl⟩ := Int.eq_ofNat_of_zero_le (ppa.1 x hx).1
  have hk := (ppa.1 _ hx).2
  have : k = q := h.inj k q (by omega) hq (by simp at he; omega)
  subst this
  exact hx
theorem iso_cnt_le (h : IsoS n xss yss φ) (hs : okSys n xss = true) (hs' : okSys n yss = true) (hn : 0 < n) : (orbsTo xss n n).length ≤ (orbsTo yss n n).length := by
  obtain ⟨k', hk'⟩ : ∃ k, (orbsTo yss n n).length = k := ⟨_, rfl⟩
  have hex : ∀ i : Nat, ∃ p : Nat, i < (orbsTo xss n n).length → p < n ∧ (orbsTo xss n n)[i]? = some (orbL xss n p) := fun i => by
    by_cases hi : i < (orbsTo xss n n).length
    · have hg := List.getElem?_eq_getElem hi
      obtain ⟨p, hp, he⟩ := orbsTo_of n (List.mem_of_getElem? hg)
      exact ⟨p, fun _ => ⟨hp, by rw [hg, he]⟩⟩
    · exact ⟨0, fun h => absurd h hi⟩
  obtain ⟨r, hr⟩ : ∃ r : Nat → Nat, ∀ i : Nat, i < (orbsTo xss n n).length → r i < n ∧ (orbsTo xss n n)[i]? = some (orbL xss n (r i)) := ⟨fun i => (hex i).choose, fun i => (hex i).choose_spec⟩
  have hlab : ∀ i, i < (orbsTo xss n n).length → ∃ j : Nat, (labL yss n)[φ (r i)]? = some (j : Int) ∧ j < k' := fun i hi => lab_at hs' hn hk' (h.im _ (hr i hi).1)
  have hnd : ((List.range (orbsTo xss n n).length).map fun i => (labL yss n).getD (φ (r i)) 0).Nodup := by
    refine List.pairwise_map.2 (List.Pairwise.imp_of_mem ?_ (List.nodup_range (n := (orbsTo xss n n).length)))
    intro a b ha hb hab he
    have ha : a < (orbsTo xss n n).length := by simpa using ha
    have hb : b < (orbsTo xss n n).length := by simpa using hb
    obtain ⟨ja, h1, _⟩ := hlab a ha
    obtain ⟨jb, h2, _⟩ := hlab b hb
    have hjj : ja = jb := by
      simp only [List.getD, h1, h2] at he
      simp at he
      omega
    subst hjj
    obtain ⟨ra, hra⟩ := hr a ha
    obtain ⟨rb, hrb⟩ := hr b hb
    obtain ⟨o, ho, hao⟩ := (lab_iff hs' (h.im _ ra)).1 h1
    obtain ⟨o2, ho2, hbo⟩ := (lab_iff hs' (h.im _ rb)).1 h2
    rw [ho] at ho2
    injection ho2 with ho2
    subst ho2
    obtain ⟨q, hq, rfl⟩ := orbsTo_of n (List.mem_of_getElem? ho)
    have hab2 := (orb_same hs' hq (h.im _ ra) hao).2 _ hbo
    have hin := iso_orb h hs ra rb hab2
    have l1 := (lab_iff hs rb).2 ⟨_, hra, hin⟩
    have l2 := (lab_iff hs rb).2 ⟨_, hrb, (orb_facts hs rb).2.1⟩
    rw [l1] at l2
    simp at l2
    exact hab (by omega)
  have hsub : ((List.range (orbsTo xss n n).length).map fun i => (labL yss n).getD (φ (r i)) 0) ⊆ (List.range k').map fun (j : Nat) => (j : Int) := by
    intro x hx
    obtain ⟨i, hi, rfl⟩ := List.mem_map.1 hx
    obtain ⟨j, h1, h2⟩ := hlab i (by simpa using hi)
    exact List.mem_map.2 ⟨j, by simpa using h2, by simp [List.getD, h1]⟩
  have := List.Nodup.length_le_of_subset hnd hsub
  simp at this
  omega
theorem iso_fac_le (h : IsoS n xss yss φ) (hs : okSys n xss = true) (hs' : okSys n yss = true) (hn : 0 < n) (i : Nat) : grtL (facL xss n i) ≤ grtL (facL yss n i) := by
  unfold facL
  rw [lab_cnt (okSys_erase hs i) hn, lab_cnt (okSys_erase hs' i) hn]
  have := iso_cnt_le (h.erase i) (okSys_erase hs i) (okSys_erase hs' i) hn
  omega
end

section
variable {yss : List (List Int)} {n f f' l : Nat}
/-- The renumbering of the section at f to that at another flag of its orbit. -/
def secPhi (ord ord' : List Int) (k : Nat) : Nat := (idxL ord' (ord.getD k 0)).toNat
theorem sec_iso (hsys : okSys n yss = true) (hf : f < n) (hf' : f' < n) (hl : (orbL yss n f).length = l) (hm : (f' : Int) ∈ orbL yss n f) : IsoS l (secL yss n f) (secL yss n f') (secPhi (orbL yss n f) (orbL yss n f')) := by
  have hl' : (orbL yss n f').length = l := by rw [← hl]; exact orb_mem hsys hf hf' hm
  obtain ⟨hpa, hfm, hcl⟩ := orb_facts hsys hf
  obtain ⟨hpa', hfm', hcl'⟩ := orb_facts hsys hf'
  have hsub := (orb_same hsys hf hf' hm).2
  obtain ⟨ord, hord⟩ : ∃ o, orbL yss n f = o := ⟨_, rfl⟩
  obtain ⟨ord', hord'⟩ : ∃ o, orbL yss n f' = o := ⟨_, rfl⟩
  unfold secL
  rw [hord] at hpa hfm hcl hl hsub ⊢
  rw [hord'] at hpa' hcl' hl' hsub ⊢
  have hat : ∀ k : Nat, k < l → ∃ x, ord[k]? = some x ∧ x ∈ ord' := fun k hk => by
    have h1 := List.getElem?_eq_getElem (show k < ord.length by omega)
    exact ⟨_, h1, hsub _ (List.mem_of_getElem? h1)⟩
  have hphi : ∀ k : Nat, k < l → ∀ x, ord[k]? = some x → ((secPhi ord ord' k : Nat) : Int) = idxL ord' x := fun k hk x hx => by
    obtain ⟨x', hx', hxm⟩ := hat k hk
    rw [hx] at hx'
    injection hx' with hx'
    subst hx'
    have h0 : 0 ≤ idxL ord' x := by simpa [hxm] using idxL_mem ord' x
    unfold secPhi
    rw [List.getD, hx]
    simp
    omega
  refine ⟨by simp, fun k hk => ?_, fun j k hj hk he => ?_, fun i g h hg hh k hk => ?_⟩
  · obtain ⟨x, hx, hxm⟩ := hat k hk
    have h1 := hphi k hk x hx
    have h2 := (idxL_bd ord' x).2
    omega
  · obtain ⟨x, hx, hxm⟩ := hat j hj
    obtain ⟨y, hy, hym⟩ := hat k hk
    have h1 := hphi j hj x hx
    have h2 := hphi k hk y hy
    have hxy := idxL_inj hxm hym (by omega)
    subst hxy
    have e1 := (List.getElem?_eq_some_iff.1 hx)
    have e2 := (List.getElem?_eq_some_iff.1 hy)
    exact (List.getElem_inj hpa.2).1 (e1.2.trans e2.2.symm)
  · rw [List.getElem?_map] at hg hh
    obtain ⟨m, hmi, rfl⟩ := Option.map_eq_some_iff.1 hg
    rw [hmi] at hh
    simp only [Option.map_some, Option.some.injEq] at hh
    subst hh
    have hmm := List.mem_of_getElem? hmi
    obtain ⟨x, hx, hxm⟩ := hat k hk
    have hxo := List.mem_of_getElem? hx
    have e1 : fz (secRow ord m) (k : Int) = idxL ord (fz m x) := fz_at (by simp [secRow, hx])
    have hgo := hcl m hmm x hxo
    have hgi := idxL_get hgo
    have hb := (idxL_bd ord (fz m x)).2
    have h0 : 0 ≤ idxL ord (fz m x) := by simpa [hgo] using idxL_mem ord (fz m x)
    rw [e1, hphi _ (by omega) _ hgi]
    have hp1 := hphi k hk x hx
    have hix := idxL_get hxm
    rw [hp1]
    have e2 : idxL ord' x = (((idxL ord' x).toNat : Nat) : Int) := by
      have : 0 ≤ idxL ord' x := by simpa [hxm] using idxL_mem ord' x
      omega
    rw [e2]
    exact (fz_at (by simp [secRow, hix])).symm
theorem sec_fac (hsys : okSys n yss = true) (hf : f < n) (hf' : f' < n) (hl : (orbL yss n f).length = l) (hm : (f' : Int) ∈ orbL yss n f) (i : Nat) : grtL (facL (secL yss n f) l i) = grtL (facL (secL yss n f') l i) := by
  have hl' : (orbL yss n f').length = l := by rw [← hl]; exact orb_mem hsys hf hf' hm
  have hm' := (orb_same hsys hf hf' hm).1
  have hpos : 0 < l := by rw [← hl]; exact List.length_pos_of_mem (orb_facts hsys hf).2.1
  have h1 := iso_fac_le (sec_iso hsys hf hf' hl hm) (secL_sys hsys hf hl) (secL_sys hsys hf' hl') hpos i
  have h2 := iso_fac_le (sec_iso hsys hf' hf hl' hm') (secL_sys hsys hf' hl') (secL_sys hsys hf hl) hpos i
  omega
theorem sec_chi {xss : List (List Int)} {i : Nat} (hsys : okSys n xss = true) (hf : f < n) (hf' : f' < n) (hm : (f' : Int) ∈ orbL ((xss.drop i).take 3) n f) : secChi xss n f i = secChi xss n f' i := by
  have hy := okSys_cut hsys i 3
  unfold secChi
  rw [orb_mem hy hf hf' hm]
  congr 1
  unfold cntTo
  refine List.map_congr_left fun j _ => ?_
  exact sec_fac hy hf hf' rfl hm j
end

section
variable {xss : List (List Int)} {i q f : Nat}
/-- A section of a maniplex is a maniplex. -/
theorem sec_man (h : IsMan xss) (hf : f < flN xss) (hi : i + q ≤ xss.length) (hq : 1 ≤ q) : IsMan (secL ((xss.drop i).take q) (flN xss) f) := by
  obtain ⟨n, hn⟩ : ∃ n, flN xss = n := ⟨_, rfl⟩
  have hsys := h.sys
  have hrow := h.row
  have hsq := h.sq
  have hr5 := h.r5
  have hf4 := h.f4
  rw [hn] at hf hsys hrow hsq hf4 ⊢
  obtain ⟨yss, hy⟩ : ∃ y, (xss.drop i).take q = y := ⟨_, rfl⟩
  have hys : okSys n yss = true := by rw [← hy]; exact okSys_cut hsys _ _
  have hyl : yss.length = q := by rw [← hy]; simp; omega
  have hyat : ∀ (j : Nat) (g : List Int), yss[j]? = some g → xss[i + j]? = some g := fun j g hg => by
    rw [← hy, List.getElem?_take] at hg
    split at hg
    · rwa [List.getElem?_drop] at hg
    · simp at hg
  rw [hy]
  obtain ⟨hpa, hfm, hcl⟩ := orb_facts hys hf
  obtain ⟨l, hl⟩ : ∃ l, (orbL yss n f).length = l := ⟨_, rfl⟩
  have hln : l ≤ n := by rw [← hl]; exact passed_len hpa
  have hss := secL_sys hys hf hl
  have hfl : flN (secL yss n f) = l := by rw [secL_fl (by omega), hl]
  have hl0 : 0 < l := by rw [← hl]; exact List.length_pos_of_mem hfm
  have hall := secL_all hys hf hl hl0
  obtain ⟨ord, hord⟩ : ∃ o, orbL yss n f = o := ⟨_, rfl⟩
  have hsec : secL yss n f = yss.map (secRow ord) := by rw [secL, hord]
  rw [hord] at hpa hfm hcl hl
  have hat : ∀ k : Nat, k < l → ∃ x, ord[k]? = some x := fun k hk => ⟨_, List.getElem?_eq_getElem (by omega)⟩
  have hin : ∀ x, x ∈ ord → ∃ k : Nat, x = (k : Int) ∧ k < n := fun x hx => by
    have := hpa.1 x hx
    obtain ⟨k, rfl⟩ := Int.eq_ofNat_of_zero_le this.1
    exact ⟨k, rfl, by omega⟩
  have hix : ∀ (k : Nat) (x : Int), ord[k]? = some x → idxL ord x = (k : Int) := fun k x hx => idx_nodup hpa.2 hx
  have hmx : ∀ m ∈ yss, m.length = n ∧ okP m = true ∧ freeP m = true := fun m hm => by
    obtain ⟨j, hj⟩ := List.mem_iff_getElem?.1 hm
    exact hrow m (List.mem_of_getElem? (hyat j m hj))
  have hfree : ∀ m ∈ yss, ∀ x ∈ ord, fz m x ≠ x ∧ fz m (fz m x) = x := fun m hm x hx => by
    obtain ⟨k, rfl, hk⟩ := hin x hx
    obtain ⟨h1, h2, h3⟩ := hmx m hm
    refine ⟨fun he => ?_, free_inv h1 h2 h3 hk⟩
    have hg := List.getElem?_eq_getElem (show k < m.length by omega)
    have h4 := (@of_decide_eq_true _ (Classical.propDecidable _) h3) k (by omega)
    rw [fz_at hg] at he
    exact h4.1 (by rw [hg, he])
  refine ⟨by rw [secL_len]; omega, by rw [secL_len]; omega, ?_, by rw [hfl]; omega, fun xs hx => ?_, fun a b p q2 hab hp hq2 => ?_, by rw [hfl]; exact hall⟩
  · rw [hfl]
    obtain ⟨m, hm⟩ : ∃ m, yss[0]? = some m := ⟨_, List.getElem?_eq_getElem (by omega)⟩
    have hmm := List.mem_of_getElem? hm
    have h1 := hcl m hmm _ hfm
    have h2 := (hfree m hmm _ hfm).1
    apply Classical.byContradiction
    intro hlt
    have h3 : l = 1 := by omega
    rw [h3] at hl
    obtain ⟨x, hx⟩ := List.length_eq_one_iff.1 hl
    rw [hx] at h1 hfm
    simp at h1 hfm
    exact h2 (by rw [h1, hfm])
  · rw [hfl]
    have h1 := (sys_parts hss).2.2.2 xs hx
    refine ⟨by omega, h1.2, ?_⟩
    rw [hsec] at hx
    obtain ⟨m, hm, rfl⟩ := List.mem_map.1 hx
    refine @decide_eq_true _ (Classical.propDecidable _) fun k hk => ?_
    rw [secRow_len, hl] at hk
    obtain ⟨x, hx⟩ := hat k hk
    have hxm := List.mem_of_getElem? hx
    have hgo := hcl m hm x hxm
    have e1 : (secRow ord m)[k]? = some (idxL ord (fz m x)) := by simp [secRow, hx]
    refine ⟨fun he => ?_, fun m' he => ?_⟩
    · rw [e1] at he
      injection he with he
      have := idxL_inj hgo hxm (by rw [he, hix k x hx])
      exact (hfree m hm x hxm).1 this
    · rw [e1] at he
      injection he with he
      have h2 := idxL_get hgo
      rw [he] at h2
      have h2 : ord[m']? = some (fz m x) := by simpa using h2
      have e2 : (secRow ord m)[m']? = some (idxL ord (fz m (fz m x))) := by simp [secRow, h2]
      rw [e2, (hfree m hm x hxm).2, hix k x hx]
  · rw [hfl]
    rw [hsec, List.getElem?_map] at hp hq2
    obtain ⟨ma, hma, rfl⟩ := Option.map_eq_some_iff.1 hp
    obtain ⟨mb, hmb, rfl⟩ := Option.map_eq_some_iff.1 hq2
    have hsq2 := hsq (i + a) (i + b) ma mb (by omega) (hyat a ma hma) (hyat b mb hmb)
    have haM := List.mem_of_getElem? hma
    have hbM := List.mem_of_getElem? hmb
    intro k hk
    obtain ⟨x, hx⟩ := hat k hk
    have hxm := List.mem_of_getElem? hx
    have ga := hcl ma haM x hxm
    have gb := hcl mb hbM x hxm
    have ea : ∀ (j : Nat) (y : Int), ord[j]? = some y → fz (secRow ord ma) (j : Int) = idxL ord (fz ma y) := fun j y hy => fz_at (by simp [secRow, hy])
    have eb : ∀ (j : Nat) (y : Int), ord[j]? = some y → fz (secRow ord mb) (j : Int) = idxL ord (fz mb y) := fun j y hy => fz_at (by simp [secRow, hy])
    have ia : idxL ord (fz ma x) = (((idxL ord (fz ma x)).toNat : Nat) : Int) := by
      have : 0 ≤ idxL ord (fz ma x) := by simpa [ga] using idxL_mem ord (fz ma x)
      omega
    have ib : idxL ord (fz mb x) = (((idxL ord (fz mb x)).toNat : Nat) : Int) := by
      have : 0 ≤ idxL ord (fz mb x) := by simpa [gb] using idxL_mem ord (fz mb x)
      omega
    obtain ⟨kx, rfl, hkx⟩ := hin x hxm
    have h1 := hsq2 kx hkx
    rw [ea k _ hx, eb k _ hx]
    refine ⟨fun he => h1.1 (idxL_inj ga gb he), ?_⟩
    rw [ib, ia, ea _ _ (idxL_get gb), eb _ _ (idxL_get ga), h1.2]
end
end Go.Proofs.Ytmgoaabeopnopaa
/- Lists of flags that move to and fro, and what the draws make of them. Plain facts. -/
namespace Go.Proofs.Ytmgoaabeopnopaa
open Go.RowKit

/-- A move: each flag goes to a flag that comes back. -/
def InvL (n : Nat) (xs : List Int) : Prop := xs.length = n ∧ ∀ x : Nat, x < n → ∃ y : Nat, y < n ∧ xs[x]? = some (y : Int) ∧ xs[y]? = some (x : Int)
/-- Moves on n flags. -/
structure OkI (n : Nat) (xss : List (List Int)) : Prop where
  inv : ∀ xs ∈ xss, InvL n xs
  n2 : 1 ≤ n
  n4 : n ≤ 400
  r1 : 1 ≤ xss.length
  r5 : xss.length ≤ 5
section
variable {n a b : Nat} {xs : List Int} {xss yss : List (List Int)}
theorem InvL.okP (h : InvL n xs) (hn : n ≤ 400) : okP xs = true := by
  refine decide_eq_true ⟨by rw [h.1]; exact hn, fun v hv => ?_, ?_⟩
  · obtain ⟨k, hk, rfl⟩ := List.mem_iff_getElem.1 hv
    rw [h.1] at hk
    obtain ⟨y, hy, h1, _⟩ := h.2 k hk
    have : xs[k]'(by rw [h.1]; exact hk) = (y : Int) := (List.getElem?_eq_some_iff.1 h1).2
    rw [this, h.1]
    omega
  · refine List.pairwise_iff_getElem.2 fun i j hi hj hij he => ?_
    have hl := h.1
    obtain ⟨y, hy, h1, h2⟩ := h.2 i (by omega)
    obtain ⟨z, hz, h3, h4⟩ := h.2 j (by omega)
    rw [List.getElem?_eq_getElem hi] at h1
    rw [List.getElem?_eq_getElem hj] at h3
    injection h1 with h1
    injection h3 with h3
    have : y = z := by omega
    subst this
    rw [h2] at h4
    injection h4 with h4
    omega
theorem inv_sys (h : ∀ xs ∈ xss, InvL n xs) (hn : n ≤ 400) (hl : xss.length ≤ 16) : okSys n xss = true :=
  decide_eq_true ⟨by omega, by omega, hl, fun xs hx => ⟨by have := (h xs hx).1; omega, (h xs hx).okP hn⟩⟩
theorem OkI.sys (h : OkI n xss) : okSys n xss = true := inv_sys h.inv h.n4 (by have := h.r5; omega)
theorem OkI.fl (h : OkI n xss) : flN xss = n := by
  cases hx : xss with
  | nil => have := h.r1; rw [hx] at this; simp at this
  | cons a r => exact (h.inv a (by rw [hx]; simp)).1
theorem OkI.rows (h : OkI n xss) : ∀ xs ∈ xss, (xs.length : Int) ≤ 1048576 := fun xs hx => by have := (h.inv xs hx).1; have := h.n4; omega
/-- A list that is told by a function that goes to and fro. -/
theorem invL_map {f : Nat → Nat} (h : ∀ x, x < n → f x < n ∧ f (f x) = x) : InvL n ((List.range n).map fun x => ((f x : Nat) : Int)) := by
  refine ⟨by simp, fun x hx => ⟨f x, (h x hx).1, by simp [hx], ?_⟩⟩
  have h1 := h x hx
  simp [h1.1, h1.2]
theorem dm {q r : Nat} (hr : r < b) : (q * b + r) / b = q ∧ (q * b + r) % b = r := by
  have hb : 0 < b := by omega
  constructor
  · rw [Nat.add_comm, Nat.add_mul_div_right _ _ hb, Nat.div_eq_of_lt hr, Nat.zero_add]
  · rw [Nat.add_comm, Nat.add_mul_mod_self_right, Nat.mod_eq_of_lt hr]
theorem dm_lt {q r : Nat} (hq : q < a) (hr : r < b) : q * b + r < a * b := by
  have h1 : (q + 1) * b ≤ a * b := Nat.mul_le_mul_right b hq
  rw [Nat.add_mul, Nat.one_mul] at h1
  omega
theorem dm_of {x : Nat} (hx : x < a * b) : x / b < a ∧ x % b < b ∧ x / b * b + x % b = x := by
  have hb : 0 < b := by
    apply Classical.byContradiction
    intro h
    have : b = 0 := by omega
    subst this
    simp at hx
  refine ⟨(Nat.div_lt_iff_lt_mul hb).2 hx, Nat.mod_lt _ hb, ?_⟩
  have := Nat.div_add_mod x b
  rw [Nat.mul_comm] at this
  exact this
/-- The moves of two maniplexes side by side. -/
def bes1 (a b : Nat) (m : List Int) : List Int := (List.range (a * b)).map fun (f : Nat) => fz m ((f / b : Nat) : Int) * (b : Int) + ((f % b : Nat) : Int)
def bes2 (a b : Nat) (m : List Int) : List Int := (List.range (a * b)).map fun (f : Nat) => ((f / b : Nat) : Int) * (b : Int) + fz m ((f % b : Nat) : Int)
def besL (a b : Nat) (xss yss : List (List Int)) : List (List Int) := xss.map (bes1 a b) ++ yss.map (bes2 a b)
theorem bes1_at {m : List Int} {x y : Nat} (hx : x < a * b) (hy : m[x / b]? = some (y : Int)) : (bes1 a b m)[x]? = some (((y * b + x % b : Nat)) : Int) := by
  simp only [bes1, List.getElem?_map, List.getElem?_range hx, Option.map_some, fz_at hy]
  simp
theorem bes2_at {m : List Int} {x y : Nat} (hx : x < a * b) (hy : m[x % b]? = some (y : Int)) : (bes2 a b m)[x]? = some (((x / b * b + y : Nat)) : Int) := by
  simp only [bes2, List.getElem?_map, List.getElem?_range hx, Option.map_some, fz_at hy]
  simp
theorem bes1_inv {m : List Int} (h : InvL a m) : InvL (a * b) (bes1 a b m) := by
  refine ⟨by simp [bes1], fun x hx => ?_⟩
  obtain ⟨h1, h2, h3⟩ := dm_of hx
  obtain ⟨y, hy, e1, e2⟩ := h.2 (x / b) h1
  have hd := dm (q := y) h2
  have hl := dm_lt hy h2
  refine ⟨y * b + x % b, hl, bes1_at hx e1, ?_⟩
  rw [bes1_at (y := x / b) hl (by rw [hd.1]; exact e2), hd.2, h3]
theorem bes2_inv {m : List Int} (h : InvL b m) : InvL (a * b) (bes2 a b m) := by
  refine ⟨by simp [bes2], fun x hx => ?_⟩
  obtain ⟨h1, h2, h3⟩ := dm_of hx
  obtain ⟨y, hy, e1, e2⟩ := h.2 (x % b) h2
  have hd := dm (q := x / b) hy
  have hl := dm_lt h1 hy
  refine ⟨x / b * b + y, hl, bes2_at hx e1, ?_⟩
  rw [bes2_at (y := x % b) hl (by rw [hd.2]; exact e2), hd.1, h3]
theorem besL_len : (besL a b xss yss).length = xss.length + yss.length := by simp [besL]
theorem besL_ok (h : OkI a xss) (k : OkI b yss) (hab : a * b ≤ 400) (hr : xss.length + yss.length ≤ 5) : OkI (a * b) (besL a b xss yss) := by
  refine ⟨fun xs hx => ?_, ?_, hab, by rw [besL_len]; have := h.r1; omega, by rw [besL_len]; exact hr⟩
  · rcases List.mem_append.1 hx with h1 | h1
    · obtain ⟨m, hm, rfl⟩ := List.mem_map.1 h1
      exact bes1_inv (h.inv m hm)
    · obtain ⟨m, hm, rfl⟩ := List.mem_map.1 h1
      exact bes2_inv (k.inv m hm)
  · exact Nat.mul_pos h.n2 k.n2
def edgeL : List (List Int) := [[1, 0]]
theorem edge_ok : OkI 2 edgeL := by
  refine ⟨fun xs hx => ?_, by decide, by decide, by decide, by decide⟩
  simp [edgeL] at hx
  subst hx
  refine ⟨rfl, fun x hx => ?_⟩
  match x, hx with
  | 0, _ => exact ⟨1, by decide, rfl, rfl⟩
  | 1, _ => exact ⟨0, by decide, rfl, rfl⟩
/-- The moves of a polygon. -/
def pg1 (f : Nat) : Nat := if f % 2 = 0 then f + 1 else f - 1
def pg2 (n f : Nat) : Nat := if f % 2 = 0 then (if f = 0 then n - 1 else f - 1) else (if f + 1 = n then 0 else f + 1)
def pgL (n : Nat) : List (List Int) := [(List.range n).map fun x => ((pg1 x : Nat) : Int), (List.range n).map fun x => ((pg2 n x : Nat) : Int)]
theorem pg_ok {p : Nat} (hp : 1 ≤ p) (hn : 2 * p ≤ 400) : OkI (2 * p) (pgL (2 * p)) := by
  refine ⟨fun xs hx => ?_, by omega, hn, by simp [pgL], by simp [pgL]⟩
  simp only [pgL, List.mem_cons, List.not_mem_nil, or_false] at hx
  rcases hx with rfl | rfl
  · refine invL_map fun x hx => ?_
    unfold pg1
    refine ⟨by split <;> omega, ?_⟩
    split <;> split <;> omega
  · refine invL_map fun x hx => ?_
    unfold pg2
    refine ⟨by split <;> split <;> omega, ?_⟩
    split <;> split <;> split <;> (try split) <;> omega
/-- The moves of the flags of edges. -/
theorem xor1_ok {e x : Nat} (hx : x < 4 * e) : x ^^^ 1 < 4 * e ∧ (x ^^^ 1) ^^^ 1 = x := by
  refine ⟨?_, by rw [Nat.xor_assoc]; simp⟩
  have h1 : (x ^^^ 1) >>> 2 = x >>> 2 := by rw [Nat.shiftRight_xor_distrib]; simp
  rw [Nat.shiftRight_eq_div_pow, Nat.shiftRight_eq_div_pow] at h1
  omega
theorem xor2_ok {e x : Nat} (hx : x < 4 * e) : x ^^^ 2 < 4 * e ∧ (x ^^^ 2) ^^^ 2 = x := by
  refine ⟨?_, by rw [Nat.xor_assoc]; simp⟩
  have h1 : (x ^^^ 2) >>> 2 = x >>> 2 := by rw [Nat.shiftRight_xor_distrib]; simp
  rw [Nat.shiftRight_eq_div_pow, Nat.shiftRight_eq_div_pow] at h1
  omega
def xoL (n k : Nat) : List Int := (List.range n).map fun x => ((x ^^^ k : Nat) : Int)
theorem xo1_inv {e : Nat} : InvL (4 * e) (xoL (4 * e) 1) := invL_map fun _ hx => xor1_ok hx
theorem xo2_inv {e : Nat} : InvL (4 * e) (xoL (4 * e) 2) := invL_map fun _ hx => xor2_ok hx
/-- The orbit of a flag, as a maniplex. -/
theorem sec_ok {f l : Nat} (h : OkI n xss) (hf : f < n) (hl : (orbL xss n f).length = l) : OkI l (secL xss n f) := by
  have hsys := h.sys
  obtain ⟨hpa, hfm, hcl⟩ := orb_facts hsys hf
  have hln := passed_len hpa
  obtain ⟨ord, hord⟩ : ∃ o, orbL xss n f = o := ⟨_, rfl⟩
  have hsec : secL xss n f = xss.map (secRow ord) := by rw [secL, hord]
  rw [hord] at hpa hfm hcl hl hln
  refine ⟨fun xs hx => ?_, by rw [← hl]; exact List.length_pos_of_mem hfm, by have := h.n4; omega, by rw [hsec, List.length_map]; exact h.r1, by rw [hsec, List.length_map]; exact h.r5⟩
  rw [hsec] at hx
  obtain ⟨m, hm, rfl⟩ := List.mem_map.1 hx
  have hinv := h.inv m hm
  refine ⟨by rw [secRow_len, hl], fun k hk => ?_⟩
  obtain ⟨x, hx⟩ : ∃ x, ord[k]? = some x := ⟨_, List.getElem?_eq_getElem (by omega)⟩
  have hxm := List.mem_of_getElem? hx
  have hxb := hpa.1 x hxm
  obtain ⟨x, rfl⟩ := Int.eq_ofNat_of_zero_le hxb.1
  obtain ⟨y, hy, e1, e2⟩ := hinv.2 x (by omega)
  have hgo := hcl m hm _ hxm
  rw [fz_at e1] at hgo
  have hgi := idxL_get hgo
  have hb := (idxL_bd ord (y : Int)).2
  have h0 : 0 ≤ idxL ord (y : Int) := by simpa [hgo] using idxL_mem ord (y : Int)
  obtain ⟨j, hj⟩ := Int.eq_ofNat_of_zero_le h0
  rw [hj] at hgi hb
  refine ⟨j, by omega, ?_, ?_⟩
  · simp [secRow, hx, fz_at e1, hj]
  · have : ord[j]? = some (y : Int) := by simpa using hgi
    simp [secRow, this, fz_at e2, idx_nodup hpa.2 hx]
end
end Go.Proofs.Ytmgoaabeopnopaa
/- Draws beside pieces of memory: the source lies below the pieces; its turning is laid into the base. Plain facts. -/
namespace Go.Proofs.Ytmgoaabeopnopaa
open Go.RowKit

section
variable {w w' wb w0 : World} {g lo n c : Nat} {A : Option Addr} {bs : List Value} {Ps Qs : List Pc}
theorem Sep.turns (h : Sep w lo Ps) (tu : Turns g (g + 1) w w') (hg : g < lo) : Sep w' lo Ps := by
  obtain ⟨Fs, h1, h2, h3⟩ := h
  refine ⟨Fs, fun i P hi => P.kept (h1 i P hi) fun k hk => ?_, fun i k hi hk => ?_, h3⟩
  · have := h2 i k (List.getElem?_eq_some_iff.1 hi).1 hk
    exact tu.block k this.2 (.inr (by omega))
  · have := h2 i k hi hk
    have := tu.size
    omega
theorem SrcE.same (hs : SrcE w g A n c bs) (h : ∀ k, k ≤ g → w'.heap[k]? = w.heap[k]?) : SrcE w' g A n c bs := by
  obtain ⟨a, x, hs⟩ := hs
  have hb := h g (Nat.le_refl _)
  have hc : ∀ k, w'.cell? ⟨g, k, none⟩ = w.cell? ⟨g, k, none⟩ := fun k => by unfold World.cell?; simp only [hb]
  have hf : ∀ k, w'.frozen? ⟨g, k, none⟩ = w.frozen? ⟨g, k, none⟩ := fun k => by unfold World.frozen?; simp only [hb]
  refine ⟨a, x, (hc 0).trans hs.c0, (hc 1).trans hs.c1, (hc 2).trans hs.c2, (hf 1).trans hs.f1, (hf 2).trans hs.f2, hs.le, ?_, hs.len, hs.u8, hs.out⟩
  intro hl
  obtain ⟨b, o, e, hcc⟩ := hs.rd hl
  refine ⟨b, o, e, fun k u hu => ?_⟩
  have h1 := hcc k u hu
  have h2 := h b (by have := hs.out hl b o e; omega)
  rw [← h1]
  unfold World.cell?
  simp only [h2]
/-- The base with the source as it stands now. -/
def patchW (g : Nat) (wb w' : World) : World := match w'.heap[g]? with | some o => { wb with heap := wb.heap.setIfInBounds g o } | none => wb
theorem patch_size : (patchW g wb w').heap.size = wb.heap.size := by
  unfold patchW
  split <;> simp
theorem patch_turns : Turns g (g + 1) wb (patchW g wb w') := by
  unfold patchW
  split
  · refine ⟨rfl, rfl, rfl, by simp, fun k hk h => ?_⟩
    have hne : g ≠ k := by omega
    simp [hne]
  · exact Turns.refl _ _ _
theorem patch_below (h : Below wb.heap.size wb w) (tu : Turns g (g + 1) w w') (hg : g < wb.heap.size) : Below (patchW g wb w').heap.size (patchW g wb w') w' := by
  have hs := h.size
  have hs2 := tu.size
  have hgo : ∃ o, w'.heap[g]? = some o := ⟨_, Array.getElem?_eq_getElem (by omega)⟩
  obtain ⟨o, ho⟩ := hgo
  have e : patchW g wb w' = { wb with heap := wb.heap.setIfInBounds g o } := by unfold patchW; rw [ho]
  rw [e]
  refine ⟨tu.os.trans h.os, tu.tape.trans h.tape, tu.output.trans h.output, by simp; omega, fun k hk => ?_⟩
  have hk : k < wb.heap.size := by simpa using hk
  by_cases hkg : g = k
  · subst hkg
    rw [ho]
    simp [hg]
  · rw [tu.block k (by omega) (by omega), h.block k hk]
    simp [hkg]
theorem St.patch (st : St wb w Ps) (tu : Turns g (g + 1) w w') (hg : g < wb.heap.size) : St (patchW g wb w') w' Ps :=
  ⟨by rw [patch_size]; exact st.sep.turns tu hg, patch_below st.below tu hg⟩

/-- The base w0 with the source turned. -/
structure Dr (g : Nat) (A : Option Addr) (n c : Nat) (bs : List Value) (w0 wb : World) : Prop where
  size : wb.heap.size = w0.heap.size
  tu : Turns g (g + 1) w0 wb
  src : SrcE wb g A n c bs
theorem Dr.lt (d : Dr g A n c bs w0 wb) : g < wb.heap.size := d.src.lt
theorem Dr.start (hs : SrcE w g A n c bs) : Dr g A n c bs w w := ⟨rfl, Turns.refl _ _ _, hs⟩
theorem Dr.now (d : Dr g A n c bs w0 wb) (st : St wb w Ps) : SrcE w g A n c bs := d.src.same fun k hk => st.below.block k (by have := d.lt; omega)
theorem Dr.num (d : Dr g A n c bs w0 wb) (st : St wb w Ps) (hs : SrcE w' g A n c bs) (tu : Turns g (g + 1) w w') : ∃ wb', Dr g A n c bs w0 wb' ∧ St wb' w' Ps := by
  have st2 := st.patch tu d.lt
  refine ⟨patchW g wb w', ⟨patch_size.trans d.size, d.tu.trans patch_turns, hs.same fun k hk => ?_⟩, st2⟩
  exact (st2.below.block k (by rw [patch_size]; have := d.lt; omega)).symm
theorem Dr.join {wb2 : World} (d : Dr g A n c bs w0 wb) (st : St wb w Ps) (d2 : Dr g A n c bs w wb2) (st2 : St wb2 w' Qs) : ∃ wb', Dr g A n c bs w0 wb' ∧ St wb' w' (Ps ++ Qs) := by
  obtain ⟨wb', d3, st3⟩ := d.num st d2.src d2.tu
  exact ⟨wb', d3, st3.join st2⟩
theorem Dr.of (hs : SrcE w' g A n c bs) (tu : Turns g (g + 1) w w') (hg : g < w.heap.size) (sep : Sep w' w.heap.size Ps) : ∃ wb, Dr g A n c bs w wb ∧ St wb w' Ps := by
  have hb := patch_below (wb := w) (Below.refl w.heap.size w) tu hg
  refine ⟨patchW g w w', ⟨patch_size, patch_turns, hs.same fun k hk => ?_⟩, ⟨by rw [patch_size]; exact sep, hb⟩⟩
  exact (hb.block k (by rw [patch_size]; omega)).symm
theorem Dr.fin (d : Dr g A n c bs w0 wb) (st : St wb w Ps) : Turns g (g + 1) w0 w ∧ Sep w w0.heap.size Ps :=
  ⟨d.tu.trans (Turns.of_below st.below (Nat.le_refl _)), by rw [← d.size]; exact st.sep⟩
theorem Sep.one {P : Pc} {F : Nat → Prop} (h : P.holds w F) (hF : ∀ k, F k → lo ≤ k ∧ k < w.heap.size) : Sep w lo [P] := by
  refine ⟨fun _ => F, fun i Q hi => ?_, fun i k _ hk => hF k hk, fun i j k hi hj hij => ?_⟩
  · match i, hi with
    | 0, hi => injection hi with hi; subst hi; exact h
  · simp at hi hj
    omega
theorem Sep.oneOwn {e m c' : Nat} {A' : Option Addr} {vs : List Value} (h : w.ownsRow lo e 1 (.slice A' m c') m vs) : Sep w lo [.own e A' m c' vs] :=
  Sep.one (F := fun k => (Value.slice A' m c').ownBlock = some k) ⟨own_base h (Nat.zero_le _), fun _ hk => hk⟩ fun k hk => h.lt k hk
/-- A piece is known less of. -/
theorem St.less {i : Nat} {P P' : Pc} (h : St w0 w Ps) (hi : Ps[i]? = some P) (hP : ∀ F, P.holds w F → P'.holds w F) : St w0 w (Ps.set i P') :=
  ⟨h.sep.step hi (Nat.le_refl _) h.lo fun F h1 _ => ⟨F, hP F h1, fun _ hk => .inl hk, fun _ _ _ => rfl⟩, h.below⟩

/-- Rows that can be read. -/
def Pc.rds (A : Option Addr) (xss : List (List Int)) : Pc :=
  ⟨fun w F => RdSS w A xss ∧ (∀ b o, A = some ⟨b, o, none⟩ → 0 < xss.length → F b) ∧ ∀ (b o j : Nat) (A' : Option Addr) (m c : Nat), A = some ⟨b, o, none⟩ → j < xss.length → w.cell? ⟨b, o + j, none⟩ = some (.slice A' m c) → ∀ b' o', A' = some ⟨b', o', none⟩ → 0 < m → F b', fun {w w' F} h hk => by
    obtain ⟨⟨vals, h1, h2, h3⟩, h4, h5⟩ := h
    have hcell : ∀ b o j, A = some ⟨b, o, none⟩ → j < xss.length → w'.cell? ⟨b, o + j, none⟩ = w.cell? ⟨b, o + j, none⟩ := fun b o j e hj => by
      have := hk b (h4 b o e (by omega))
      unfold World.cell?
      simp only [this]
    refine ⟨⟨vals, fun hl => ?_, h2, fun j xs hj => ?_⟩, h4, fun b o j A' m c e hj hc => h5 b o j A' m c e hj (by rw [← hcell b o j e hj]; exact hc)⟩
    · obtain ⟨b, o, e, hc⟩ := h1 hl
      refine ⟨b, o, e, fun k u hu => ?_⟩
      have hkl : k < xss.length := by have := (List.getElem?_eq_some_iff.1 hu).1; omega
      rw [hcell b o k e hkl]
      exact hc k u hu
    · obtain ⟨A', c', a1, a2, a3⟩ := h3 j xs hj
      refine ⟨A', c', a1, fun hl => ?_, a3⟩
      obtain ⟨b', o', e', hc'⟩ := a2 hl
      refine ⟨b', o', e', fun k u hu => ?_⟩
      have hjl := (List.getElem?_eq_some_iff.1 hj).1
      obtain ⟨b, o, e, hc⟩ := h1 (by omega)
      have hF := h5 b o j A' xs.length c' e hjl (hc j _ a1) b' o' e' (by simpa using hl)
      have := hk b' hF
      have h6 := hc' k u hu
      rw [← h6]
      unfold World.cell?
      simp only [this]⟩
end
end Go.Proofs.Ytmgoaabeopnopaa
/- spec.l04Before. -/
namespace Go.Proofs.Ytmgoaabeopnopaa
open Go.RowKit

/-- A maniplex stands before another one in lists of forms. -/
def befB (xss yss : List (List Int)) : Bool := if flN xss = flN yss then decide (cmpLL xss yss < 0) else decide (flN xss < flN yss)

theorem cell_s3 {w W : World} {b o p q b0 o0 : Nat} {u v x : Value} (h0 : w.cell? ⟨b0, o0, none⟩ = some x) (h : Below w.heap.size w W ∧ W.cell? ⟨p, q, none⟩ = some v ∧ W.cell? ⟨b, o, none⟩ = some u) : W.cell? ⟨b0, o0, none⟩ = some x := cell_be h0 h.1
end Go.Proofs.Ytmgoaabeopnopaa
/- A pool of forms behind a fixed list of pieces, and the lists of spec.l04Forms. -/
namespace Go.Proofs.Ytmgoaabeopnopaa
open Go.RowKit

/-- One of the pool: where its moves lie, and which they are. -/
structure Pf where
  a : Option Addr
  c : Nat
  vals : List Value
  xss : List (List Int)
def poolP (N : Nat) (ps : List Pf) : List Pc := ps.map fun p => .rows 2 36 p.a N p.c p.vals p.xss
def Pf.val (N : Nat) (p : Pf) : Value := .slice p.a N p.c
section
variable {N j k : Nat} {ps : List Pf} {p : Pf} {Fx Qs : List Pc} {w w0 : World} {q : Pc}
theorem poolP_at (h : ps[j]? = some p) : (Fx ++ poolP N ps)[Fx.length + j]? = some (.rows 2 36 p.a N p.c p.vals p.xss) := by
  rw [List.getElem?_append_right (by omega), Nat.add_sub_cancel_left]
  simp [poolP, h]
theorem poolP_snoc : poolP N (ps ++ [p]) = poolP N ps ++ [.rows 2 36 p.a N p.c p.vals p.xss] := by simp [poolP]
theorem poolP_push (a : Option Addr) (c : Nat) (vals : List Value) (xss : List (List Int)) : Fx ++ poolP N ps ++ [.rows 2 36 a N c vals xss] = Fx ++ poolP N (ps ++ [⟨a, c, vals, xss⟩]) := by
  rw [poolP_snoc, List.append_assoc]
theorem St.pool_rd (h : St w0 w (Fx ++ poolP N ps)) (hj : ps[j]? = some p) : RdSS w p.a p.xss := ownSS_rd (h.sep.ownSS (poolP_at hj))
/-- The last piece comes to the front. -/
theorem St.front (h : St w0 w (Qs ++ [q])) : St w0 w (q :: Qs) := by
  refine h.pick (fun i => if i = 0 then Qs.length else i - 1) (fun i hi => ?_) (fun i hi => ?_) (fun i l hi hl hne => ?_)
  · show (if i = 0 then Qs.length else i - 1) < (Qs ++ [q]).length
    simp at hi ⊢
    split <;> omega
  · show (q :: Qs)[i]? = (Qs ++ [q])[if i = 0 then Qs.length else i - 1]?
    cases i with
    | zero => simp
    | succ i =>
      simp at hi
      simp [List.getElem?_append_left hi]
  · show (if i = 0 then Qs.length else i - 1) ≠ (if l = 0 then Qs.length else l - 1)
    simp at hi hl
    split <;> split <;> omega
/-- A piece in the list's midst is lifted over the pool: what was added behind the pool stands ahead of it. -/
theorem St.ahead (h : St w0 w (Fx ++ Qs ++ [q])) : St w0 w (Fx ++ [q] ++ Qs) := by
  refine h.pick (fun i => if i < Fx.length then i else if i = Fx.length then Fx.length + Qs.length else i - 1) (fun i hi => ?_) (fun i hi => ?_) (fun i l hi hl hne => ?_)
  · show (if i < Fx.length then i else if i = Fx.length then Fx.length + Qs.length else i - 1) < (Fx ++ Qs ++ [q]).length
    simp at hi ⊢
    split
    · omega
    · split <;> omega
  · show (Fx ++ [q] ++ Qs)[i]? = (Fx ++ Qs ++ [q])[if i < Fx.length then i else if i = Fx.length then Fx.length + Qs.length else i - 1]?
    simp at hi
    split
    · rename_i h1
      rw [List.append_assoc, List.append_assoc, List.getElem?_append_left h1, List.getElem?_append_left h1]
    · split
      · rename_i h1 h2
        have e1 : (Fx ++ [q] ++ Qs)[Fx.length]? = some q := by
          rw [List.append_assoc, List.getElem?_append_right (Nat.le_refl _), Nat.sub_self]
          rfl
        have e2 : (Fx ++ Qs ++ [q])[Fx.length + Qs.length]? = some q := by
          rw [← List.length_append, List.getElem?_append_right (Nat.le_refl _), Nat.sub_self]
          rfl
        rw [h2, e1, e2]
      · rename_i h1 h2
        rw [List.getElem?_append_right (by simp; omega), List.append_assoc, List.getElem?_append_right (by omega), List.getElem?_append_left (by omega)]
        congr 1
        simp
        omega
  · show (if i < Fx.length then i else if i = Fx.length then Fx.length + Qs.length else i - 1) ≠ (if l < Fx.length then l else if l = Fx.length then Fx.length + Qs.length else l - 1)
    simp at hi hl
    split <;> split <;> (try split) <;> (try split) <;> omega
end

/-- The place that a form gets in a list of indices of forms: behind those that are before it. -/
def plcF (Fs : List (List (List Int))) (js : List Nat) (x : List (List Int)) : Nat := (js.takeWhile fun j => befB (Fs.getD j []) x).length
/-- A form is put into the list, unless it is there. -/
def insJ (Fs : List (List (List Int))) (js : List Nat) (o : Nat) : List Nat :=
  if (js.drop (plcF Fs js (Fs.getD o []))).head?.map (fun j => Fs.getD j []) = some (Fs.getD o []) then js else js.take (plcF Fs js (Fs.getD o [])) ++ o :: js.drop (plcF Fs js (Fs.getD o []))
def jsTo (Fs : List (List (List Int))) : Nat → List Nat
  | 0 => []
  | o + 1 => insJ Fs (jsTo Fs o) o
section
variable {Fs : List (List (List Int))} {js : List Nat} {x : List (List Int)} {o t : Nat}
theorem plcF_le : plcF Fs js x ≤ js.length := (List.takeWhile_prefix _).length_le
/-- Those ahead of the place are before the form, and the one at the place is not. -/
theorem plcF_iff (ht : t ≤ js.length) (hlt : ∀ s j, s < t → js[s]? = some j → befB (Fs.getD j []) x = true) (hge : ∀ j, js[t]? = some j → befB (Fs.getD j []) x = false) : plcF Fs js x = t := by
  unfold plcF
  have h1 : js = js.take t ++ js.drop t := (List.take_append_drop t js).symm
  have h2 : (js.take t).all (fun j => befB (Fs.getD j []) x) = true := List.all_eq_true.2 fun j hj => by
    obtain ⟨s, hs, he⟩ := List.mem_iff_getElem.1 hj
    have hs2 : s < min t js.length := by simpa using hs
    have hs3 : s < js.length := by omega
    refine hlt s j (by omega) ?_
    rw [← he]
    simp [hs3]
  rw [h1, List.takeWhile_append_of_pos (fun j hj => List.all_eq_true.1 h2 j hj)]
  cases hd : js.drop t with
  | nil => simp; omega
  | cons j r =>
    have hj : js[t]? = some j := by
      have := congrArg (fun l : List Nat => l[0]?) hd
      simpa using this
    rw [List.takeWhile_cons_of_neg (by rw [hge j hj]; decide)]
    simp
    omega
theorem insJ_lt (h : ∀ j ∈ js, j < o) : ∀ j ∈ insJ Fs js o, j < o + 1 := by
  intro j hj
  unfold insJ at hj
  split at hj
  · have := h j hj; omega
  · rcases List.mem_append.1 hj with h1 | h1
    · have := h j (List.mem_of_mem_take h1); omega
    · rcases List.mem_cons.1 h1 with rfl | h1
      · omega
      · have := h j (List.mem_of_mem_drop h1); omega
theorem jsTo_lt : ∀ o, ∀ j ∈ jsTo Fs o, j < o
  | 0, j, h => by simp [jsTo] at h
  | o + 1, j, h => insJ_lt (jsTo_lt o) j h
theorem insJ_len : (insJ Fs js o).length ≤ js.length + 1 := by
  unfold insJ
  split
  · omega
  · have := plcF_le (Fs := Fs) (js := js) (x := Fs.getD o [])
    simp
    omega
theorem jsTo_len : ∀ o, (jsTo Fs o).length ≤ o
  | 0 => by simp [jsTo]
  | o + 1 => by
    have h1 := insJ_len (Fs := Fs) (js := jsTo Fs o) (o := o)
    have h2 : (jsTo Fs o).length ≤ o := jsTo_len o
    simp only [jsTo]
    omega
end
end Go.Proofs.Ytmgoaabeopnopaa
/- spec.l01Draw gives a permutation; spec.l01Matching. -/
namespace Go.Proofs.Ytmgoaabeopnopaa
open Go.RowKit

theorem okP_swap {L : List Int} {j k : Nat} {x y : Int} (hok : okP L = true) (hj : L[j]? = some x) (hk : L[k]? = some y) : okP ((L.set j y).set k x) = true := by
  obtain ⟨hjl, hjx⟩ := List.getElem?_eq_some_iff.1 hj
  obtain ⟨hkl, hky⟩ := List.getElem?_eq_some_iff.1 hk
  have hperm : ((L.set j y).set k x).Perm L := by
    have h1 := Array.swap_perm (xs := L.toArray) (i := j) (j := k) (by simpa using hjl) (by simpa using hkl)
    have h2 := Array.perm_iff_toList_perm.1 h1
    have h3 : (L.toArray.swap j k (by simpa using hjl) (by simpa using hkl)).toList = (L.set j y).set k x := by simp [hjx, hky]
    rwa [h3] at h2
  have h0 : L.length ≤ 400 ∧ IsP L := of_decide_eq_true hok
  have hl := hperm.length_eq
  refine decide_eq_true ⟨by omega, fun v hv => ?_, hperm.nodup_iff.2 h0.2.2⟩
  rw [hl]
  exact h0.2.1 v (hperm.mem_iff.1 hv)
theorem okP_unit {N : Nat} (hN : N ≤ 400) : okP (unitL N) = true := by
  refine decide_eq_true ⟨by simp [unitL]; exact hN, fun v hv => ?_, ?_⟩
  · simp [unitL] at hv ⊢
    obtain ⟨k, hk, rfl⟩ := hv
    omega
  · refine List.pairwise_map.2 (List.Pairwise.imp ?_ (List.nodup_range (n := N)))
    intro a b hab he
    exact hab (by omega)
/-- A drawn list. -/
def RetDL (w : World) (g : Nat) (A : Option Addr) (n c : Nat) (bs : List Value) (N : Nat) (good : List Int → Prop) (e : Ending) (w' : World) : Prop :=
  ∃ (wb : World) (A' : Option Addr) (c' : Nat) (L : List Int), e = .returned (.slice A' N c') ∧ L.length = N ∧ good L ∧ Dr g A n c bs w wb ∧ St wb w' [.own 2 A' N c' (ints L)]
section
variable {A : Option Addr} {g n c : Nat} {bs : List Value}
set_option maxHeartbeats 1600000 in
theorem drawP {N : Nat} (w : World) (hs : SrcE w g A n c bs) (hn : n ≤ 1048576) (hN : N ≤ 400) :
    Calls Try.prog 161 #[.pointer (some ⟨g, 0, none⟩), .int .i64 N] w (RetDL w g A n c bs N fun L => okP L = true) := by
  have HS := Lib.hid hs
  have hlt := hs.lt
  clear hs
  go_enter Try.func161, Try.ntmps161
  go_wp2_with fail
  refine (unit_any N w (by omega)).mono ?_
  rintro e w1 ⟨A1, c1, rfl, own, bel⟩
  have ST := Lib.hid (show DSt w w1 g A n c bs A1 N c1 (unitL N) from ⟨by simp [unitL], own, HS.out.turns (lo := w.heap.size) (hi := w.heap.size) (Turns.of_below bel (Nat.le_refl _)) hlt, Turns.of_below bel (Nat.le_refl _), hlt⟩)
  have HP0 := Lib.hid (okP_unit hN)
  clear own bel
  go_wp2
  go_loopw [6] (fun q wr => ∃ (i : Int) (L : List Int), -1 ≤ i ∧ i < N ∧ q = .int .i64 i ∧ okP L = true ∧ DSt w wr g A n c bs A1 N c1 L) (fun q _ => (intOf q).toNat)
  case atStart => exact ⟨(N : Int) - 1, unitL N, by omega, by omega, by first | rfl | go_num, HP0.out, ST.out⟩
  case round =>
    obtain ⟨i, L, hi0, hi1, rfl, hok, st⟩ := hrel
    have S := Lib.hid st
    have HOK := Lib.hid hok
    clear st ST hok
    by_cases h0 : 0 < i
    · obtain ⟨b, rfl⟩ := own_shape S.out.own (by omega)
      obtain ⟨j, rfl⟩ := Int.eq_ofNat_of_zero_le (show 0 ≤ i by omega)
      go_wp2_with fail
      refine (nextE wr S.out.src hn (by omega)).mono ?_
      rintro e w2 ⟨r, rfl, ⟨hr0, hr1⟩, hs2, tu2⟩
      obtain ⟨k, rfl⟩ := Int.eq_ofNat_of_zero_le hr0
      have S2 := Lib.hid (S.out.next hs2 tu2)
      clear hs2 tu2
      have hjg := List.getElem?_eq_getElem (show j < L.length by rw [S2.out.len]; omega)
      have hkg := List.getElem?_eq_getElem (show k < L.length by rw [S2.out.len]; omega)
      obtain ⟨x, hx0⟩ : ∃ x, L[j]'(by rw [S2.out.len]; omega) = x := ⟨_, rfl⟩
      obtain ⟨y, hy0⟩ : ∃ y, L[k]'(by rw [S2.out.len]; omega) = y := ⟨_, rfl⟩
      rw [hx0] at hjg
      rw [hy0] at hkg
      have HSW := Lib.hid (okP_swap HOK.out hjg hkg)
      have hx : (ints L)[j]? = some (.int .i64 x) := by simp [hjg]
      have hy : (ints L)[k]? = some (.int .i64 y) := by simp [hkg]
      have hcx := own_cell S2.out.own hx
      have hcy := own_cell S2.out.own hy
      have hfx := S2.out.own.frozenAt j
      have S3 := Lib.hid (S2.out.set (k := j) (x := y))
      obtain ⟨z, hz⟩ := ints_at S3.out.len (show k < N by omega)
      have hcz := own_cell S3.out.own hz
      have hfz := S3.out.own.frozenAt k
      have S4 := Lib.hid (S3.out.set (k := k) (x := x))
      clear hx hy hz hjg hkg hx0 hy0
      go_wp2
      go_roundw
      case rel => exact ⟨(j : Int) - 1, _, by omega, by omega, by go_num, HSW.out, S4.out⟩
      case measure => simp [intOf]; omega
    · go_wp2
      go_ret
      obtain ⟨wb, d, s⟩ := Dr.of S.out.src S.out.tu S.out.lt (Sep.oneOwn S.out.own)
      exact ⟨wb, A1, c1, L, rfl, S.out.len, HOK.out, d, s⟩
end
/-- The first t pairs of points of a list are matched. -/
def MatTo (L : List Int) (t : Nat) (p : List Int) : Prop := ∀ s, s < t → ∀ x y : Nat, L[2 * s]? = some (x : Int) → L[2 * s + 1]? = some (y : Int) → p[x]? = some (y : Int) ∧ p[y]? = some (x : Int)
section
variable {L p : List Int} {N t x y : Nat}
theorem mat_step (hok : okP L = true) (hL : L.length = N) (hp : p.length = N) (h : MatTo L t p) (hx : L[2 * t]? = some (x : Int)) (hy : L[2 * t + 1]? = some (y : Int)) : MatTo L (t + 1) ((p.set x (y : Int)).set y (x : Int)) := by
  have h0 : L.length ≤ 400 ∧ IsP L := of_decide_eq_true hok
  have inj : ∀ (i j : Nat) (v : Int), L[i]? = some v → L[j]? = some v → i = j := fun i j v h1 h2 => by
    obtain ⟨a1, b1⟩ := List.getElem?_eq_some_iff.1 h1
    obtain ⟨a2, b2⟩ := List.getElem?_eq_some_iff.1 h2
    exact (List.getElem_inj h0.2.2).1 (b1.trans b2.symm)
  have rng : ∀ (i v : Nat), L[i]? = some (v : Int) → v < N := fun i v h1 => by
    have := (h0.2.1 _ (List.mem_of_getElem? h1)).2
    omega
  intro s hs x' y' hx' hy'
  have lx := rng _ _ hx
  have ly := rng _ _ hy
  have lx' := rng _ _ hx'
  have ly' := rng _ _ hy'
  rcases Nat.lt_succ_iff_lt_or_eq.1 hs with h1 | rfl
  · have e1 : x ≠ x' := fun e => by subst e; have := inj _ _ _ hx hx'; omega
    have e2 : x ≠ y' := fun e => by subst e; have := inj _ _ _ hx hy'; omega
    have e3 : y ≠ x' := fun e => by subst e; have := inj _ _ _ hy hx'; omega
    have e4 : y ≠ y' := fun e => by subst e; have := inj _ _ _ hy hy'; omega
    rw [List.getElem?_set_ne e3, List.getElem?_set_ne e1, List.getElem?_set_ne e4, List.getElem?_set_ne e2]
    exact h s h1 x' y' hx' hy'
  · rw [hx] at hx'
    rw [hy] at hy'
    injection hx' with hx'
    injection hy' with hy'
    have e1 : x = x' := by omega
    have e2 : y = y' := by omega
    subst e1
    subst e2
    have hne : y ≠ x := fun e => by subst e; have := inj _ _ _ hx hy; omega
    rw [List.getElem?_set_ne hne, List.getElem?_set_self (by omega), List.getElem?_set_self (by simp; omega)]
    exact ⟨rfl, rfl⟩
theorem mat_inv (hok : okP L = true) (hL : L.length = N) (hp : p.length = N) (h : MatTo L t p) (ht : N = 2 * t) : InvL N p := by
  have h0 : L.length ≤ 400 ∧ IsP L := of_decide_eq_true hok
  refine ⟨hp, fun x hx => ?_⟩
  have hpa : Passed N L := ⟨fun v hv => by have := h0.2.1 v hv; omega, h0.2.2⟩
  obtain ⟨i, hi, he⟩ := List.mem_iff_getElem.1 (mem_all hL hpa hx)
  have hxi : L[i]? = some (x : Int) := by rw [List.getElem?_eq_getElem hi, he]
  have pt : ∀ j, j < N → ∃ y : Nat, y < N ∧ L[j]? = some (y : Int) := fun j hj => by
    have hg := List.getElem?_eq_getElem (show j < L.length by omega)
    have hb := hpa.1 _ (List.mem_of_getElem? hg)
    obtain ⟨y, hy⟩ := Int.eq_ofNat_of_zero_le hb.1
    exact ⟨y, by omega, by rw [hg, hy]⟩
  by_cases hev : i % 2 = 0
  · obtain ⟨y, hy, hyi⟩ := pt (i + 1) (by omega)
    have e1 : 2 * (i / 2) = i := by omega
    have := h (i / 2) (by omega) x y (by rw [e1]; exact hxi) (by rw [e1]; exact hyi)
    exact ⟨y, hy, this.1, this.2⟩
  · obtain ⟨y, hy, hyi⟩ := pt (i - 1) (by omega)
    have e1 : 2 * (i / 2) = i - 1 := by omega
    have e2 : 2 * (i / 2) + 1 = i := by omega
    have := h (i / 2) (by omega) y x (by rw [e1]; exact hyi) (by rw [e2]; exact hxi)
    exact ⟨y, hy, this.2, this.1⟩
end
section
variable {A : Option Addr} {g n c : Nat} {bs : List Value}
set_option maxRecDepth 8000 in
set_option maxHeartbeats 3200000 in
theorem matchP {N : Nat} (w : World) (hs : SrcE w g A n c bs) (hn : n ≤ 1048576) (hN : N ≤ 400) :
    Calls Try.prog 154 #[.pointer (some ⟨g, 0, none⟩), .int .i64 N] w (RetDL w g A n c bs N fun p => N % 2 = 0 → InvL N p) := by
  have hlt := hs.lt
  have hmk := run_make_row' (P := Try.prog) 36 2 (.int .i64 0) 8 Try.underlying36 Try.info2 rfl .i64 .i64 N (by omega) (by omega)
  have S0 := Lib.hid ((St.start w).go (below_drewN (Below.refl _ _) 1))
  have S0m := Lib.hid (((St.start w).go (below_drewN (Below.refl _ _) 1)).addMake (.int .i64 0) N 2 (by unfold maxLen; omega))
  have D0 := Lib.hid (Dr.start hs)
  clear hs
  go_enter Try.func154, Try.ntmps154
  go_wp2
  go_region_law ((first
    | (go_simp; go_at_call 161
       refine (drawP _ (D0.out.now S0.out) hn hN).mono ?_
       rintro e w1 ⟨wb1, A1, c1, L, rfl, hL, hok, d1, st1⟩
       obtain ⟨wb, d, st⟩ := D0.out.join S0.out d1 st1
       have D1 := Lib.hid d
       have S1 := Lib.hid (show St wb (w1.alloc (.cells (madeCells #[.int .i64 0] N) 2)) [.own 2 A1 N c1 (ints L), .own 2 (some ⟨w1.heap.size, 0, none⟩) N N (ints (List.replicate N 0))] from by simpa [ints] using (show St wb w1 [.own 2 A1 N c1 (ints L)] from st).addMake (.int .i64 0) N 2 (by unfold maxLen; omega))
       have hgP : ∃ gP, gP = w1.heap.size := ⟨_, rfl⟩
       clear d st d1 st1)
    | (go_simp; go_at_call 161
       refine (drawP _ (D0.out.now S0m.out) hn hN).mono ?_
       rintro e w1 ⟨wb1, A1, c1, L, rfl, hL, hok, d1, st1⟩
       obtain ⟨wb, d, st⟩ := D0.out.join S0m.out d1 st1
       have D1 := Lib.hid d
       have S1 := Lib.hid (show St wb w1 [.own 2 A1 N c1 (ints L), .own 2 (some ⟨w.heap.size, 0, none⟩) N N (ints (List.replicate N 0))] from by
         have h := St.front (Qs := [Pc.own 2 (some ⟨w.heap.size, 0, none⟩) N N (List.replicate N (Value.int .i64 0))]) st
         simpa [ints] using h)
       have hgP : ∃ gP, gP = w.heap.size := ⟨_, rfl⟩
       clear d st d1 st1)))
  all_goals
    have HL := Lib.hid hL
    have HOK := Lib.hid hok
    obtain ⟨gP, hgP⟩ := hgP
    rw [← hgP] at S1 ⊢
    clear hL hok hmk hgP S0 S0m D0
    have M0 := Lib.hid (show MatTo L 0 (List.replicate N 0) from fun s h => absurd h (by omega))
    go_wp2
    go_loopw [7] (fun q wr => ∃ (t i : Nat) (p : List Int), i = 2 * t ∧ i ≤ N ∧ q = .int .i64 i ∧ p.length = N ∧ MatTo L t p ∧ St wb wr [.own 2 A1 N c1 (ints L), .own 2 (some ⟨gP, 0, none⟩) N N (ints p)]) (fun q _ => N + 1 - (intOf q).toNat)
    case atStart => exact ⟨0, 0, _, rfl, Nat.zero_le _, rfl, by simp, M0.out, S1.out⟩
    case round =>
      obtain ⟨t, i, p, hit, hi, rfl, hpl, hm, st⟩ := hrel
      have HIT := Lib.hid hit
      have HPL := Lib.hid hpl
      have HM := Lib.hid hm
      clear hit hpl hm M0 S1
      have j1 : IntKind.i64.wrap ((i : Int) + 1) = ((i + 1 : Nat) : Int) := (IntWalk.i64_in _ (by omega)).trans (by omega)
      by_cases hlt2 : i + 1 < N
      · have pt : ∀ j, j < N → ∃ y : Nat, y < N ∧ L[j]? = some (y : Int) := fun j hj => by
          have hg := List.getElem?_eq_getElem (show j < L.length by rw [HL.out]; exact hj)
          have h0 : L.length ≤ 400 ∧ IsP L := of_decide_eq_true HOK.out
          have hb := h0.2.1 _ (List.mem_of_getElem? hg)
          have := HL.out
          obtain ⟨y, hy⟩ := Int.eq_ofNat_of_zero_le hb.1
          exact ⟨y, by omega, by rw [hg, hy]⟩
        obtain ⟨x, hxN, hx⟩ := pt i (by omega)
        obtain ⟨y, hyN, hy⟩ := pt (i + 1) (by omega)
        obtain ⟨gA, rfl⟩ := own_shape (st.own (i := 0) rfl) (show 0 < N by omega)
        have c1' := own_cell (st.own (i := 0) rfl) (show (ints L)[i]? = some (.int .i64 (x : Int)) by simp [hx])
        have c2' := own_cell (st.own (i := 0) rfl) (show (ints L)[i + 1]? = some (.int .i64 (y : Int)) by simp [hy])
        obtain ⟨u, hu⟩ := ints_at HPL.out hxN
        have c3' := own_cell (st.own (i := 1) rfl) hu
        have f3' := (st.own (i := 1) rfl).frozenAt x
        have st2 : St wb ((wr.setCell ⟨gP, x, none⟩ (.int .i64 (y : Int))).drew.drew) [.own 2 (some ⟨gA, 0, none⟩) N c1 (ints L), .own 2 (some ⟨gP, 0, none⟩) N N (ints (p.set x (y : Int)))] := by
          rw [← ints_set]
          exact (st.store (i := 1) rfl x (.int .i64 (y : Int))).go (below_drewN (below_drewN (Below.refl _ _) 1) 1)
        have d1 := own_cell (st2.own (i := 0) rfl) (show (ints L)[i]? = some (.int .i64 (x : Int)) by simp [hx])
        have d2 := own_cell (st2.own (i := 0) rfl) (show (ints L)[i + 1]? = some (.int .i64 (y : Int)) by simp [hy])
        obtain ⟨v, hv⟩ := ints_at (xs := p.set x (y : Int)) (n := N) (by simp [HPL.out]) hyN
        have d3 := own_cell (st2.own (i := 1) rfl) hv
        have g3 := (st2.own (i := 1) rfl).frozenAt y
        have st3 : St wb (((wr.setCell ⟨gP, x, none⟩ (.int .i64 (y : Int))).drew.drew).setCell ⟨gP, y, none⟩ (.int .i64 (x : Int))) [.own 2 (some ⟨gA, 0, none⟩) N c1 (ints L), .own 2 (some ⟨gP, 0, none⟩) N N (ints ((p.set x (y : Int)).set y (x : Int)))] := by
          rw [← ints_set]
          exact st2.store (i := 1) rfl y (.int .i64 (x : Int))
        have i0I : 0 ≤ (i : Int) + 1 := by omega
        have i0N : ((i : Int) + 1).toNat = i + 1 := by omega
        have S3 := Lib.hid st3
        have HM2 := Lib.hid (mat_step HOK.out HL.out HPL.out HM.out (by rw [← HIT.out]; exact hx) (by rw [← HIT.out]; exact hy))
        have iI : (i : Int) < (N : Int) := by omega
        have i1I : ((i + 1 : Nat) : Int) < (N : Int) := by omega
        have xI : (x : Int) < (N : Int) := by omega
        have yI : (y : Int) < (N : Int) := by omega
        clear st st2 st3 hx hy hu hv pt
        go_wp2
        go_region
        go_wp2
        go_region
        go_wp2
        go_roundw
        case rel => exact ⟨t + 1, i + 2, _, by have := HIT.out; omega, by omega, by go_num, by simp [HPL.out], HM2.out, S3.out⟩
        case measure => simp [intOf]; omega
      · have S3 := Lib.hid st
        have HMI := Lib.hid (show N % 2 = 0 → InvL N p from fun hev => mat_inv HOK.out HL.out HPL.out HM.out (by have := HIT.out; omega))
        clear st
        go_wp2
        go_ret
        exact ⟨wb, _, N, p, rfl, HPL.out, HMI.out, D1.out, S3.out.drop 0⟩
end
end Go.Proofs.Ytmgoaabeopnopaa
