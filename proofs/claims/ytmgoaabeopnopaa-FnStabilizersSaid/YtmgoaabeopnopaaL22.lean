import Derived.Test.YtmgoaabeopnopaaL23
import Derived.Test.YtmgoaabeopnopaaAs
import Derived.Test.YtmgoaabeopnopaaL25
import Derived.Test.YtmgoaabeopnopaaL27
/- Orbits of groups of permutations, and their numbers. Plain facts. -/
namespace Go.Proofs.Ytmgoaabeopnopaa
open Go.RowKit

structure Grp (n : Nat) (A : List (List Int)) : Prop where
  big : okBig n A = true
  unit : ∃ U ∈ A, ∀ p : Nat, p < n → fz U p = (p : Int)
  comp : ∀ L ∈ A, ∀ M ∈ A, ∃ K ∈ A, ∀ p : Nat, p < n → fz K p = fz M (fz L p)
  inv : ∀ L ∈ A, ∃ K ∈ A, ∀ p q : Nat, p < n → fz L p = (q : Int) → fz K q = (p : Int)
def SameP (A : List (List Int)) (p q : Nat) : Prop := ∃ L ∈ A, fz L p = (q : Int)
section
variable {A : List (List Int)} {n : Nat}
theorem sameP_refl (hm : Grp n A) {p : Nat} (hp : p < n) : SameP A p p := by
  obtain ⟨U, hU, h⟩ := hm.unit
  exact ⟨U, hU, h p hp⟩
theorem sameP_symm (hm : Grp n A) {p q : Nat} (hp : p < n) (_hq : q < n) (h : SameP A p q) : SameP A q p := by
  obtain ⟨L, hL, he⟩ := h
  obtain ⟨K, hK, hk⟩ := hm.inv L hL
  exact ⟨K, hK, hk p q hp he⟩
theorem sameP_trans (hm : Grp n A) {p q r : Nat} (hp : p < n) (_hq : q < n) (_hr : r < n) (h : SameP A p q) (h' : SameP A q r) : SameP A p r := by
  obtain ⟨L, hL, he⟩ := h
  obtain ⟨M, hM, he'⟩ := h'
  obtain ⟨K, hK, hk⟩ := hm.comp L hL M hM
  exact ⟨K, hK, by rw [hk p hp, he, he']⟩
theorem gorb_mem (hm : Grp n A) {p q : Nat} (hp : p < n) : (q : Int) ∈ orbL A n p ↔ SameP A p q := by
  obtain ⟨_, o1, o2, o3⟩ := Big.orb_aside hm.big (passed_nil n) (closed_nil A) hp (by simp)
  simp only [List.nil_append] at o1 o3
  constructor
  · intro h
    have hcl : Closed A (A.map fun L => fz L p) := by
      intro g hg x hx
      obtain ⟨L, hL, rfl⟩ := List.mem_map.1 hx
      obtain ⟨K, hK, hk⟩ := hm.comp L hL g hg
      exact List.mem_map.2 ⟨K, hK, hk p hp⟩
    obtain ⟨U, hU, hu⟩ := hm.unit
    have h2 := orb_sub (n := n) (q := p) hcl (List.mem_map.2 ⟨U, hU, hu p hp⟩) _ h
    obtain ⟨L, hL, he⟩ := List.mem_map.1 h2
    exact ⟨L, hL, he⟩
  · rintro ⟨L, hL, he⟩
    rw [← he]
    exact o3 L hL _ o2
theorem gorbs_mem (hm : Grp n A) {q : Nat} (hq : q < n) : ∀ k, k ≤ n → ((q : Int) ∈ (orbsTo A (n) k).flatten ↔ ∃ p, p < k ∧ SameP A p q)
  | 0, _ => by simp [orbsTo]
  | k + 1, hk => by
    have ih := gorbs_mem hm hq k (by omega)
    by_cases h : (k : Int) ∈ (orbsTo A (n) k).flatten
    · rw [orbsTo_in h, ih]
      constructor
      · rintro ⟨p, hp, hs⟩; exact ⟨p, by omega, hs⟩
      · rintro ⟨p, hp, hs⟩
        rcases Nat.lt_succ_iff_lt_or_eq.1 hp with h1 | rfl
        · exact ⟨p, h1, hs⟩
        · obtain ⟨p', hp', hs'⟩ := (gorbs_mem hm (show p < n by omega) p (by omega)).1 h
          exact ⟨p', hp', sameP_trans hm (by omega) (by omega) hq hs' hs⟩
    · rw [orbsTo_out h, List.flatten_append]
      simp only [List.flatten_cons, List.flatten_nil, List.append_nil, List.mem_append]
      rw [ih, gorb_mem hm (by omega)]
      constructor
      · rintro (⟨p, hp, hs⟩ | hs)
        · exact ⟨p, by omega, hs⟩
        · exact ⟨k, by omega, hs⟩
      · rintro ⟨p, hp, hs⟩
        rcases Nat.lt_succ_iff_lt_or_eq.1 hp with h1 | rfl
        · exact .inl ⟨p, h1, hs⟩
        · exact .inr hs
/-- The numbers of the orbits of the flags below k, in a list that holds those of the first ones. -/
structure LabG (A : List (List Int)) (n f : Nat) (D : List Int) : Prop where
  len : D.length = n
  lab : ∀ p : Nat, p < f → ∀ (i : Nat) (o : List Int), (orbsTo A (n) f)[i]? = some o → (p : Int) ∈ o → D[p]? = some (i : Int)
theorem labG_start {D : List Int} (h : D.length = n) : LabG A n 0 D := ⟨h, fun p hp => by omega⟩
theorem labG_done (hm : Grp n A) {D : List Int} (h : LabG A n (n) D) : D = labL A (n) := by
  refine Big.lab_all (hm.big) h.len fun i o ho p hp => ?_
  have hpa := (Big.orbsTo_facts (hm.big) (n) (Nat.le_refl _)).1
  have := hpa.1 _ (List.mem_flatten.2 ⟨o, List.mem_of_getElem? ho, hp⟩)
  exact h.lab p (by omega) i o ho hp
/-- Each flag below k has a number. -/
theorem labG_has (hm : Grp n A) {f p : Nat} (hf : f ≤ n) (hp : p < f) : ∃ (i : Nat) (o : List Int), (orbsTo A (n) f)[i]? = some o ∧ (p : Int) ∈ o := by
  obtain ⟨o, ho, hpo⟩ := List.mem_flatten.1 ((Big.orbsTo_facts (hm.big) f hf).2.2.2 p hp)
  obtain ⟨i, hi, he⟩ := List.mem_iff_getElem.1 ho
  exact ⟨i, o, by rw [List.getElem?_eq_getElem hi, he], hpo⟩
/-- Flags that are led to each other have one number, and others have different ones. -/
theorem gorb_idx (hm : Grp n A) {f p q i : Nat} {o : List Int} (hf : f ≤ n) (hp : p < n) (hq : q < n) (ho : (orbsTo A (n) f)[i]? = some o) (hpo : (p : Int) ∈ o) : (q : Int) ∈ o ↔ SameP A p q := by
  have hall : ∀ k, k ≤ n → ∀ (i : Nat) (o : List Int), (orbsTo A (n) k)[i]? = some o → ∃ r, r < k ∧ o = orbL A (n) r := by
    intro k
    induction k with
    | zero => intro _ i o h; simp [orbsTo] at h
    | succ k ih =>
      intro hk i o h
      by_cases hin : (k : Int) ∈ (orbsTo A (n) k).flatten
      · rw [orbsTo_in hin] at h
        obtain ⟨r, hr, he⟩ := ih (by omega) i o h
        exact ⟨r, by omega, he⟩
      · rw [orbsTo_out hin] at h
        rcases get_snoc' h with h1 | h1
        · obtain ⟨r, hr, he⟩ := ih (by omega) i o h1
          exact ⟨r, by omega, he⟩
        · exact ⟨k, by omega, h1⟩
  obtain ⟨r, hr, rfl⟩ := hall f hf i o ho
  have h1 := (gorb_mem hm (show r < n by omega)).1 hpo
  rw [gorb_mem hm (by omega)]
  constructor
  · intro h2; exact sameP_trans hm hp (by omega) hq (sameP_symm hm (by omega) hp h1) h2
  · intro h2; exact sameP_trans hm (by omega) hp hq h1 h2
theorem labL_ok2 (hm : Grp n A) {i p : Nat} {o : List Int} (ho : (orbsTo A n n)[i]? = some o) (hp : (p : Int) ∈ o) : (labL A n)[p]? = some (i : Int) := by
  have hpa := (Big.orbsTo_facts hm.big n (Nat.le_refl _)).1
  have hpr := hpa.1 _ (List.mem_flatten.2 ⟨o, List.mem_of_getElem? ho, hp⟩)
  have hex : ∃ x ∈ orbsTo A n n, decide ((p : Int) ∈ x) = true := ⟨o, List.mem_of_getElem? ho, by simpa using hp⟩
  have hlt := List.findIdx_lt_length_of_exists hex
  have hat := List.findIdx_getElem (w := hlt)
  have hat : (p : Int) ∈ (orbsTo A n n)[(orbsTo A n n).findIdx fun x => decide ((p : Int) ∈ x)] := by simpa using hat
  have e := flat_idx hpa.2 (List.getElem?_eq_getElem hlt) ho hat hp
  unfold labL
  rw [List.getElem?_map, List.getElem?_range (by omega)]
  simp only [Option.map_some]
  rw [e]
theorem gl_at (hm : Grp n A) {f : Nat} (hf : f < n) : ∃ j : Nat, j < (orbsTo A n n).length ∧ (labL A n)[f]? = some (j : Int) := by
  obtain ⟨i, o, ho, hp⟩ := labG_has hm (f := n) (Nat.le_refl _) hf
  exact ⟨i, (List.getElem?_eq_some_iff.1 ho).1, labL_ok2 hm ho hp⟩
theorem gl_onto (hm : Grp n A) {j : Nat} (hj : j < (orbsTo A n n).length) : ∃ f, f < n ∧ (labL A n)[f]? = some (j : Int) := by
  have hall : ∀ k, k ≤ n → ∀ (i : Nat) (o : List Int), (orbsTo A n k)[i]? = some o → ∃ r : Nat, r < n ∧ (r : Int) ∈ o := by
    intro k
    induction k with
    | zero => intro _ i o h; simp [orbsTo] at h
    | succ k ih =>
      intro hk i o h
      by_cases hin : (k : Int) ∈ (orbsTo A n k).flatten
      · rw [orbsTo_in hin] at h
        exact ih (by omega) i o h
      · rw [orbsTo_out hin] at h
        rcases get_snoc' h with h1 | h1
        · exact ih (by omega) i o h1
        · subst h1
          exact ⟨k, by omega, (gorb_mem hm (by omega)).2 (sameP_refl hm (by omega))⟩
  have ho := List.getElem?_eq_getElem (l := orbsTo A n n) hj
  obtain ⟨r, hr, hro⟩ := hall _ (Nat.le_refl _) j _ ho
  exact ⟨r, hr, labL_ok2 hm ho hro⟩
theorem gl_in (hm : Grp n A) : ∀ x ∈ labL A n, 0 ≤ x ∧ x < ((orbsTo A n n).length : Int) := by
  intro x hx
  obtain ⟨f, hf, he⟩ := List.mem_iff_getElem.1 hx
  rw [labL_length] at hf
  obtain ⟨j, hj, hx⟩ := gl_at hm hf
  rw [List.getElem?_eq_getElem (by rw [labL_length]; exact hf), he] at hx
  injection hx with hx
  omega
theorem gl_pos (hm : Grp n A) (hn : 0 < n) : 0 < (orbsTo A n n).length := by
  obtain ⟨j, hj, _⟩ := gl_at hm (f := 0) hn
  omega
theorem gl_grt (hm : Grp n A) (hn : 0 < n) : grtL (labL A n) = ((orbsTo A n n).length : Int) := by
  refine grt_fold _ 0 _ (by omega) (fun x hx => (gl_in hm x hx).2) (.inr ?_)
  have hp := gl_pos hm hn
  obtain ⟨f, hf, he⟩ := gl_onto hm (j := (orbsTo A n n).length - 1) (by omega)
  have := List.mem_of_getElem? he
  rwa [show (((orbsTo A n n).length - 1 : Nat) : Int) = ((orbsTo A n n).length : Int) - 1 by omega] at this
theorem max_fold : ∀ (l : List Int) (a b : Int), a ≤ b → (∀ x ∈ l, x ≤ b) → (a = b ∨ b ∈ l) → l.foldl max a = b
  | [], a, b, _, _, h => by
    rcases h with h | h
    · exact h
    · simp at h
  | x :: l, a, b, hab, hx, h => by
    rw [List.foldl_cons]
    have hxb := hx x (by simp)
    refine max_fold l _ b (by omega) (fun y hy => hx y (by simp [hy])) ?_
    rcases h with h | h
    · left; omega
    · rcases List.mem_cons.1 h with h1 | h1
      · left; omega
      · exact .inr h1
theorem gl_max (hm : Grp n A) (hn : 0 < n) : mxL (labL A n) = ((orbsTo A n n).length : Int) - 1 := by
  have hp := gl_pos hm hn
  refine max_fold _ 0 _ (by omega) (fun x hx => by have := (gl_in hm x hx).2; omega) (.inr ?_)
  obtain ⟨f, hf, he⟩ := gl_onto hm (j := (orbsTo A n n).length - 1) (by omega)
  have := List.mem_of_getElem? he
  rwa [show (((orbsTo A n n).length - 1 : Nat) : Int) = ((orbsTo A n n).length : Int) - 1 by omega] at this
end
end Go.Proofs.Ytmgoaabeopnopaa
/- The orbits of faces under the automorphisms, told by the least orbit of a face's flags. Plain facts. -/
namespace Go.Proofs.Ytmgoaabeopnopaa
open Go.RowKit

section
variable {xss : List (List Int)} {i : Nat}
noncomputable def fpsL (xss : List (List Int)) (i : Nat) : List (List Int) := (autL xss).map (fpL xss i)
theorem fp_fz (hm : IsMan xss) {L : List Int} (hL : L ∈ autL xss) {p j : Nat} (hp : p < flN xss) (hj : (fL xss i)[p]? = some (j : Int)) : fz (fpL xss i L) j = fz (fL xss i) (fz L p) := fz_at (fpL_at hm hL hp hj)
theorem aut_inv (hm : IsMan xss) {L : List Int} (hL : L ∈ autL xss) : ∃ K ∈ autL xss, ∀ p : Nat, p < flN xss → fz K (fz L p) = (p : Int) := by
  have hn : 0 < flN xss := by have := hm.f2; omega
  obtain ⟨q, hq, he⟩ := aut_img hm hL hn
  obtain ⟨K, hK, hk⟩ := sameF_symm hm hn hq ⟨L, hL, he⟩
  refine ⟨K, hK, ?_⟩
  have h1 := hom_then hm.sys rfl ((aut_iff hm).1 hL) ((aut_iff hm).1 hK)
  have h2 := hom_uniq hm.sys rfl hn (hm.all hn) h1 (hom_unit hm.sys) (by
    have e1 : fz ((List.range (flN xss)).map fun k : Nat => fz K (fz L k)) ((0 : Nat) : Int) = fz K (fz L ((0 : Nat) : Int)) := fz_at (by simp [hn])
    have e2 := fz_unit hn
    have e3 : fz ((List.range (flN xss)).map fun k : Nat => fz K (fz L k)) ((0 : Nat) : Int) = fz (unitL (flN xss)) ((0 : Nat) : Int) := by rw [e1, he, hk, e2]
    exact e3)
  intro p hp
  have e1 : fz ((List.range (flN xss)).map fun k : Nat => fz K (fz L k)) (p : Int) = fz K (fz L p) := fz_at (by simp [hp])
  rw [← e1, h2, fz_unit hp]
theorem fps_grp (hm : IsMan xss) : Grp (fcn xss i) (fpsL xss i) := by
  have hc4 : fcn xss i ≤ 400 := by have := fcn_le (i := i) hm; have := hm.f4; omega
  have himg : ∀ L ∈ autL xss, ∀ j, j < fcn xss i → ∃ p, p < flN xss ∧ (fL xss i)[p]? = some (j : Int) ∧ ∃ q k : Nat, q < flN xss ∧ k < fcn xss i ∧ fz L p = (q : Int) ∧ (fL xss i)[q]? = some (k : Int) ∧ fz (fpL xss i L) j = (k : Int) := by
    intro L hL j hj
    obtain ⟨p, hp, hpj⟩ := fL_onto hm hj
    obtain ⟨q, hq, he⟩ := aut_img hm hL hp
    obtain ⟨k, hk, hqk⟩ := fL_at (i := i) hm hq
    exact ⟨p, hp, hpj, q, k, hq, hk, he, hqk, by rw [fp_fz hm hL hp hpj, he, fz_at hqk]⟩
  have hinv : ∀ L ∈ autL xss, ∃ K ∈ autL xss, ∀ p q : Nat, p < fcn xss i → fz (fpL xss i L) p = (q : Int) → fz (fpL xss i K) q = (p : Int) := by
    intro L hL
    obtain ⟨K, hK, hk⟩ := aut_inv hm hL
    refine ⟨K, hK, fun j k hj he => ?_⟩
    obtain ⟨p, hp, hpj, q, k', hq, _, he1, hqk, he2⟩ := himg L hL j hj
    have : k = k' := by omega
    subst this
    rw [fp_fz hm hK hq hqk, ← he1, hk p hp, fz_at hpj]
  refine ⟨decide_eq_true ⟨by omega, by omega, ?_, fun xs hxs => ?_⟩, ?_, fun L0 hL0 M0 hM0 => ?_, fun L0 hL0 => ?_⟩
  · have := autL_len xss
    have := hm.f4
    rw [fpsL, List.length_map]; omega
  · obtain ⟨L, hL, rfl⟩ := List.mem_map.1 hxs
    refine ⟨by rw [fpL_len], okP_of fpL_len hc4 (fun x h0 h1 => ?_) fun x y hx0 hx1 hy0 hy1 he => ?_⟩
    · obtain ⟨j, rfl⟩ := Int.eq_ofNat_of_zero_le h0
      obtain ⟨_, _, _, _, k, _, hk, _, _, h2⟩ := himg L hL j (by omega)
      omega
    · obtain ⟨j, rfl⟩ := Int.eq_ofNat_of_zero_le hx0
      obtain ⟨k, rfl⟩ := Int.eq_ofNat_of_zero_le hy0
      obtain ⟨K, hK, hk⟩ := hinv L hL
      obtain ⟨_, _, _, _, u, _, _, _, _, h2⟩ := himg L hL j (by omega)
      have e1 := hk j u (by omega) h2
      have e2 := hk k u (by omega) (by rw [← he]; exact h2)
      omega
  · refine ⟨_, List.mem_map.2 ⟨_, (aut_iff hm).2 (hom_unit hm.sys), rfl⟩, fun j hj => ?_⟩
    obtain ⟨p, hp, hpj⟩ := fL_onto hm hj
    rw [fp_fz hm ((aut_iff hm).2 (hom_unit hm.sys)) hp hpj, fz_unit hp, fz_at hpj]
  · obtain ⟨L, hL, rfl⟩ := List.mem_map.1 hL0
    obtain ⟨M, hM, rfl⟩ := List.mem_map.1 hM0
    have hK := (aut_iff hm).2 (hom_then hm.sys rfl ((aut_iff hm).1 hL) ((aut_iff hm).1 hM))
    refine ⟨_, List.mem_map.2 ⟨_, hK, rfl⟩, fun j hj => ?_⟩
    obtain ⟨p, hp, hpj, q, k, hq, _, he1, hqk, he2⟩ := himg L hL j hj
    rw [fp_fz hm hK hp hpj, he2, fp_fz hm hM hq hqk, ← he1]
    congr 1
    exact fz_at (by simp [hp])
  · obtain ⟨L, hL, rfl⟩ := List.mem_map.1 hL0
    obtain ⟨K, hK, hk⟩ := hinv L hL
    exact ⟨_, List.mem_map.2 ⟨K, hK, rfl⟩, hk⟩
/-- The least number of an orbit of flags of a face. -/
structure Lv (xss : List (List Int)) (i : Nat) (j : Nat) (v : Nat) : Prop where
  ex : ∃ f, f < flN xss ∧ (fL xss i)[f]? = some (j : Int) ∧ (oL xss)[f]? = some (v : Int)
  le : ∀ f u : Nat, f < flN xss → (fL xss i)[f]? = some (j : Int) → (oL xss)[f]? = some (u : Int) → v ≤ u
theorem lv_same (hm : IsMan xss) {j k u v : Nat} (hj : j < fcn xss i) (hu : Lv xss i j u) (hv : Lv xss i k v) : SameP (fpsL xss i) j k ↔ u = v := by
  constructor
  · rintro ⟨M, hM, he⟩
    obtain ⟨L, hL, rfl⟩ := List.mem_map.1 hM
    have key : ∀ (L : List Int) (hL : L ∈ autL xss) {j k u v : Nat}, fz (fpL xss i L) j = (k : Int) → Lv xss i j u → Lv xss i k v → v ≤ u := by
      intro L hL j k u v he hu hv
      obtain ⟨f, hf, hfj, hfu⟩ := hu.ex
      obtain ⟨q, hq, heq⟩ := aut_img hm hL hf
      obtain ⟨k', hk', hqk⟩ := fL_at (i := i) hm hq
      have h1 := fp_fz hm hL hf hfj
      rw [he, heq, fz_at hqk] at h1
      have : k = k' := by omega
      subst this
      obtain ⟨w, _, hqw⟩ := oL_at hm hq
      have h2 := (oL_same hm hf hq).2 ⟨L, hL, heq⟩
      rw [fz_at hfu, fz_at hqw] at h2
      have := hv.le q w hq hqk hqw
      omega
    obtain ⟨K, hK, hk⟩ := (fps_grp hm (i := i)).inv _ hM
    obtain ⟨K', hK', rfl⟩ := List.mem_map.1 hK
    have h1 := key L hL he hu hv
    have h2 := key K' hK' (hk j k hj he) hv hu
    omega
  · intro h
    subst h
    obtain ⟨f, hf, hfj, hfu⟩ := hu.ex
    obtain ⟨g, hg, hgk, hgu⟩ := hv.ex
    obtain ⟨L, hL, he⟩ := (oL_same hm hf hg).1 (by rw [fz_at hfu, fz_at hgu])
    exact ⟨_, List.mem_map.2 ⟨L, hL, rfl⟩, by rw [fp_fz hm hL hf hfj, he, fz_at hgk]⟩
/-- What the list of least numbers holds when the flags below f are done. -/
def LvR (xss : List (List Int)) (i f : Nat) (D : List Int) : Prop := D.length = fcn xss i ∧ ∀ j : Nat, j < fcn xss i → ∃ v : Nat, D[j]? = some (v : Int) ∧ v ≤ 400 ∧ (v = 400 ∨ ∃ k, k < f ∧ (fL xss i)[k]? = some (j : Int) ∧ (oL xss)[k]? = some (v : Int)) ∧ ∀ k u : Nat, k < f → (fL xss i)[k]? = some (j : Int) → (oL xss)[k]? = some (u : Int) → v ≤ u
theorem lvR_start : LvR xss i 0 (List.replicate (fcn xss i) 400) := ⟨by simp, fun j hj => ⟨400, by simp [hj], Nat.le_refl _, .inl rfl, fun k u hk => by omega⟩⟩
theorem lvR_step {D : List Int} {f j u v : Nat} (h : LvR xss i f D) (hj : (fL xss i)[f]? = some (j : Int)) (hjl : j < fcn xss i) (hu : (oL xss)[f]? = some (u : Int)) (hu4 : u ≤ 400) (hv : D[j]? = some (v : Int)) : LvR xss i (f + 1) (D.set j (min (v : Int) (u : Int))) := by
  refine ⟨by simp [h.1], fun k hk => ?_⟩
  obtain ⟨w, hw, hw4, hex, hle⟩ := h.2 k hk
  by_cases e : j = k
  · subst e
    rw [hv] at hw
    injection hw with hw
    have : v = w := by omega
    subst this
    refine ⟨min v u, by rw [List.getElem?_set_self (by rw [h.1]; exact hjl)]; congr 1; omega, by omega, ?_, fun k' u' hk' hk1 hk2 => ?_⟩
    · rcases Nat.le_total v u with h1 | h1
      · rw [Nat.min_eq_left h1]
        rcases hex with h2 | ⟨k', h2, h3⟩
        · exact .inl h2
        · exact .inr ⟨k', by omega, h3⟩
      · rw [Nat.min_eq_right h1]
        exact .inr ⟨f, by omega, hj, hu⟩
    · rcases Nat.lt_succ_iff_lt_or_eq.1 hk' with h1 | rfl
      · have := hle k' u' h1 hk1 hk2; omega
      · rw [hu] at hk2; injection hk2 with hk2; omega
  · refine ⟨w, by rw [List.getElem?_set_ne e]; exact hw, hw4, ?_, fun k' u' hk' hk1 hk2 => ?_⟩
    · rcases hex with h2 | ⟨k', h2, h3⟩
      · exact .inl h2
      · exact .inr ⟨k', by omega, h3⟩
    · rcases Nat.lt_succ_iff_lt_or_eq.1 hk' with h1 | rfl
      · exact hle k' u' h1 hk1 hk2
      · rw [hj] at hk1; injection hk1 with hk1; omega
theorem lvR_done (hm : IsMan xss) {D : List Int} (h : LvR xss i (flN xss) D) {j : Nat} (hj : j < fcn xss i) : ∃ v : Nat, D[j]? = some (v : Int) ∧ v < 400 ∧ Lv xss i j v := by
  obtain ⟨v, hv, _, hex, hle⟩ := h.2 j hj
  obtain ⟨f, hf, hfj⟩ := fL_onto hm hj
  obtain ⟨u, hu, hfu⟩ := oL_at hm hf
  have h1 := hle f u hf hfj hfu
  have h2 := ocn_le hm
  have h3 := hm.f4
  refine ⟨v, hv, by omega, ?_, fun f' u' hf' h4 h5 => hle f' u' hf' h4 h5⟩
  rcases hex with h4 | h4
  · omega
  · exact h4
/-- What the lists hold when the faces below f have their numbers. -/
structure FoR (xss : List (List Int)) (i f : Nat) (fo D : List Int) : Prop where
  len : D.length = fcn xss i
  fln : fo.length = (orbsTo (fpsL xss i) (fcn xss i) f).length
  don : ∀ k : Nat, k < f → ∀ (a : Nat) (o : List Int), (orbsTo (fpsL xss i) (fcn xss i) f)[a]? = some o → (k : Int) ∈ o → D[k]? = some (a : Int) ∧ ∃ v : Nat, Lv xss i k v ∧ fo[a]? = some (v : Int)
  src : ∀ x ∈ fo, ∃ k v : Nat, k < f ∧ Lv xss i k v ∧ x = (v : Int)
  nd : fo.Nodup
  rest : ∀ k : Nat, f ≤ k → k < fcn xss i → ∃ v : Nat, D[k]? = some (v : Int) ∧ v < 400 ∧ Lv xss i k v
theorem foR_start (hm : IsMan xss) {D : List Int} (h : LvR xss i (flN xss) D) : FoR xss i 0 [] D := ⟨h.1, by simp [orbsTo], fun k hk => by omega, by simp, List.nodup_nil, fun k _ hk => lvR_done hm h hk⟩
theorem foR_known (hm : IsMan xss) {f v : Nat} {fo D : List Int} (h : FoR xss i f fo D) (hf : f < fcn xss i) (hv : Lv xss i f v) : (v : Int) ∈ fo ↔ (f : Int) ∈ (orbsTo (fpsL xss i) (fcn xss i) f).flatten := by
  have hg := fps_grp (i := i) hm
  rw [gorbs_mem hg hf f (by omega)]
  constructor
  · intro hin
    obtain ⟨k, u, hk, hu, he⟩ := h.src _ hin
    have : v = u := by omega
    subst this
    exact ⟨k, hk, (lv_same hm (by omega) hu hv).2 rfl⟩
  · rintro ⟨k, hk, hs⟩
    obtain ⟨a, o, ho, hko⟩ := labG_has hg (f := f) (by omega) hk
    obtain ⟨_, u, hu, hfo⟩ := h.don k hk a o ho hko
    have := (lv_same hm (by omega) hu hv).1 hs
    subst this
    exact List.mem_of_getElem? hfo
theorem foR_old (hm : IsMan xss) {f v : Nat} {fo D : List Int} (h : FoR xss i f fo D) (hf : f < fcn xss i) (hv : Lv xss i f v) (hin : (v : Int) ∈ fo) : FoR xss i (f + 1) fo (D.set f (idxL fo (v : Int))) := by
  have hg := fps_grp (i := i) hm
  have hfl := (foR_known hm h hf hv).1 hin
  obtain ⟨k0, hk0, hs0⟩ := (gorbs_mem hg hf f (by omega)).1 hfl
  obtain ⟨a0, o0, ho0, hko0⟩ := labG_has hg (f := f) (by omega) hk0
  obtain ⟨_, u0, hu0, hfo0⟩ := h.don k0 hk0 a0 o0 ho0 hko0
  have e0 := (lv_same hm (by omega) hu0 hv).1 hs0
  subst e0
  have hidx := idx_nodup h.nd hfo0
  have hfo : (f : Int) ∈ o0 := (gorb_idx hg (by omega) (by omega) hf ho0 hko0).2 hs0
  have hnd := (Big.orbsTo_facts hg.big f (by omega)).1.2
  refine ⟨by simp [h.len], by rw [orbsTo_in hfl]; exact h.fln, fun k hk a o ho hko => ?_, fun x hx => ?_, h.nd, fun k hk hk2 => ?_⟩
  · rw [orbsTo_in hfl] at ho
    rcases Nat.lt_succ_iff_lt_or_eq.1 hk with h1 | rfl
    · rw [List.getElem?_set_ne (by omega)]
      exact h.don k h1 a o ho hko
    · have := flat_idx hnd ho ho0 hko hfo
      subst this
      exact ⟨by rw [List.getElem?_set_self (by rw [h.len]; exact hf), hidx], u0, hv, hfo0⟩
  · obtain ⟨k, u, h1, h2⟩ := h.src x hx
    exact ⟨k, u, by omega, h2⟩
  · rw [List.getElem?_set_ne (by omega)]
    exact h.rest k (by omega) hk2
theorem foR_new (hm : IsMan xss) {f v : Nat} {fo D : List Int} (h : FoR xss i f fo D) (hf : f < fcn xss i) (hv : Lv xss i f v) (hin : ¬ (v : Int) ∈ fo) : FoR xss i (f + 1) (fo ++ [(v : Int)]) (D.set f (idxL (fo ++ [(v : Int)]) (v : Int))) := by
  have hg := fps_grp (i := i) hm
  have hfl : ¬ (f : Int) ∈ (orbsTo (fpsL xss i) (fcn xss i) f).flatten := fun h1 => hin ((foR_known hm h hf hv).2 h1)
  have hnd2 : (fo ++ [(v : Int)]).Nodup := List.nodup_append.2 ⟨h.nd, by simp, fun a ha b hb e => by simp at hb; subst hb; subst e; exact hin ha⟩
  have hidx := idx_nodup hnd2 (x := (v : Int)) (k := fo.length) (by simp)
  have hnd := (Big.orbsTo_facts hg.big (f + 1) (by omega)).1.2
  refine ⟨by simp [h.len], by rw [orbsTo_out hfl]; simp [h.fln], fun k hk a o ho hko => ?_, fun x hx => ?_, hnd2, fun k hk hk2 => ?_⟩
  · rcases Nat.lt_succ_iff_lt_or_eq.1 hk with h1 | rfl
    · obtain ⟨a1, o1, ho1, hko1⟩ := labG_has hg (f := f) (by omega) h1
      have ho2 : (orbsTo (fpsL xss i) (fcn xss i) (f + 1))[a1]? = some o1 := by
        rw [orbsTo_out hfl, List.getElem?_append_left (List.getElem?_eq_some_iff.1 ho1).1]; exact ho1
      have := flat_idx hnd ho ho2 hko hko1
      subst this
      obtain ⟨h2, u, hu, hfo⟩ := h.don k h1 a o1 ho1 hko1
      exact ⟨by rw [List.getElem?_set_ne (by omega)]; exact h2, u, hu, by rw [List.getElem?_append_left (List.getElem?_eq_some_iff.1 hfo).1]; exact hfo⟩
    · have ha : a = fo.length := by
        rw [orbsTo_out hfl] at ho
        rcases Nat.lt_or_ge a (orbsTo (fpsL xss i) (fcn xss i) k).length with h1 | h1
        · rw [List.getElem?_append_left h1] at ho
          exact absurd (List.mem_flatten.2 ⟨o, List.mem_of_getElem? ho, hko⟩) hfl
        · have := (List.getElem?_eq_some_iff.1 ho).1
          simp at this
          have := h.fln
          omega
      subst ha
      exact ⟨by rw [List.getElem?_set_self (by rw [h.len]; exact hf), hidx], v, hv, by simp⟩
  · rcases List.mem_append.1 hx with h1 | h1
    · obtain ⟨k, u, h2, h3⟩ := h.src x h1
      exact ⟨k, u, by omega, h3⟩
    · simp at h1
      exact ⟨f, v, by omega, hv, h1⟩
  · rw [List.getElem?_set_ne (by omega)]
    exact h.rest k (by omega) hk2
theorem foR_done (hm : IsMan xss) {fo D : List Int} (h : FoR xss i (fcn xss i) fo D) : D = labL (fpsL xss i) (fcn xss i) := by
  have hg := fps_grp (i := i) hm
  refine Big.lab_all hg.big h.len fun a o ho p hp => ?_
  have hpa := (Big.orbsTo_facts hg.big (fcn xss i) (Nat.le_refl _)).1
  have := hpa.1 _ (List.mem_flatten.2 ⟨o, List.mem_of_getElem? ho, hp⟩)
  exact (h.don p (by omega) a o ho hp).1
theorem foR_len (hm : IsMan xss) {f : Nat} {fo D : List Int} (h : FoR xss i f fo D) (hf : f ≤ fcn xss i) : fo.length ≤ f := by
  rw [h.fln]
  exact (Big.orbsTo_facts (fps_grp (i := i) hm).big f hf).2.2.1
end
noncomputable def foL (xss : List (List Int)) (i : Nat) : List Int := labL (fpsL xss i) (fcn xss i)
noncomputable def foR6 (xss : List (List Int)) (i : Int) : List Int := if rkC xss i = 0 then foL xss i.toNat else []
end Go.Proofs.Ytmgoaabeopnopaa
/- impl.faceOrbits. -/
namespace Go.Proofs.Ytmgoaabeopnopaa
open Go.RowKit

set_option maxHeartbeats 800000 in
theorem icont_any {A : Option Addr} {c n : Nat} {l : List Int} (x : Int) (w : World) (hx : l.length = n) (ha : Rd w A (ints l)) (hn : n ≤ 1048576) :
    Calls Try.prog 168 #[.slice A n c, .int .i64 x] w fun e w' => e = .returned (.bool (decide (x ∈ l))) ∧ w = w' := by
  have HX := Lib.hid hx
  have HA := Lib.hid ha
  have hm := idxL_mem l x
  obtain ⟨r, hr⟩ : ∃ r, decide (x ∈ l) = r := ⟨_, rfl⟩
  obtain ⟨k, hk⟩ : ∃ k, idxL l x = k := ⟨_, rfl⟩
  rw [hr, hk] at hm
  rw [hr]
  have HK := Lib.hid hk
  have HM := Lib.hid hm
  clear hx ha hr hk hm
  go_enter Try.func168, Try.ntmps168
  go_wp2_with fail
  refine (iidx_any x _ HX.out HA.out hn).mono ?_
  rintro e w1 ⟨rfl, rfl⟩
  rw [HK.out]
  go_wp2
  go_ret
  exact ⟨ret_bool HM.out, rfl⟩

abbrev foPs (h0 : Nat) (m : Value) (g n c1 : Nat) (FL : List Int) (g2 : Nat) (OL : List Int) (g3 q c3 : Nat) (D : List Int) : List Pc :=
  [.blk h0 #[m] 27, .own 2 (some ⟨g, 0, none⟩) n c1 (ints FL), .own 2 (some ⟨g2, 0, none⟩) n n (ints OL), .own 2 (some ⟨g3, 0, none⟩) q c3 (ints D)]

set_option maxHeartbeats 6400000 in
set_option maxRecDepth 100000 in
theorem ifoc_any {A : Option Addr} {c N i : Nat} {xss : List (List Int)} (w : World) (hm : okMan xss = true) (hx : xss.length = N) (ha : RdSS w A xss) (hi : i < N) (hcap : N ≤ c) (hc63 : c ≤ 9223372036854775807) :
    Calls Try.prog 132 #[.agg #[.slice A N c], .int .i64 i] w (RetN w (foL xss i) (fcn xss i)) := by
  have hman := okMan_iff.1 hm
  have hsys := hman.sys
  have hn4 := hman.f4
  have hn2 := hman.f2
  have hN5 := hman.r5
  rw [hx] at hN5
  obtain ⟨b, o, A0, c0, rfl, hc0⟩ := man_row0 hman ha
  have hcl := fcn_le (i := i) hman
  have hcp := fcn_pos (i := i) hman
  have hlen := @fL_len xss i
  have holn := @oL_len xss
  have hat := fun (f : Nat) (hf : f < flN xss) => fL_at (i := i) hman hf
  have hoa := fun (f : Nat) (hf : f < flN xss) => oL_at hman hf
  have hoc := ocn_le hman
  have hgr := fL_grt (i := i) hman
  have hL0 := @lvR_start xss i
  have hLS := fun (f j u v : Nat) (D : List Int) (h : LvR xss i f D) (hj : (fL xss i)[f]? = some (j : Int)) (hjl : j < fcn xss i) (hu : (oL xss)[f]? = some (u : Int)) (hu4 : u ≤ 400) (hv : D[j]? = some (v : Int)) => lvR_step h hj hjl hu hu4 hv
  have hF0 := fun (D : List Int) (h : LvR xss i (flN xss) D) => foR_start hman h
  have hFO := fun (f v : Nat) (fo D : List Int) (h : FoR xss i f fo D) (hf : f < fcn xss i) (hv : Lv xss i f v) (hin : (v : Int) ∈ fo) => foR_old hman h hf hv hin
  have hFN := fun (f v : Nat) (fo D : List Int) (h : FoR xss i f fo D) (hf : f < fcn xss i) (hv : Lv xss i f v) (hin : ¬ (v : Int) ∈ fo) => foR_new hman h hf hv hin
  have hFL1 := fun (f : Nat) (fo D : List Int) (h : FoR xss i f fo D) (hf : f ≤ fcn xss i) => foR_len hman h hf
  have hFD := fun (fo D : List Int) (h : FoR xss i (fcn xss i) fo D) => foR_done hman h
  obtain ⟨q, hq⟩ : ∃ q, fcn xss i = q := ⟨_, rfl⟩
  obtain ⟨FL, hFL⟩ : ∃ FL, fL xss i = FL := ⟨_, rfl⟩
  obtain ⟨OL, hOL⟩ : ∃ OL, oL xss = OL := ⟨_, rfl⟩
  have hFL2 : facL xss (flN xss) i = FL := hFL
  have hOL2 : labL (autL xss) (flN xss) = OL := hOL
  have hfo : foL xss i = labL (fpsL xss i) (fcn xss i) := rfl
  have hrl : ∀ f D, LvR xss i f D → D.length = fcn xss i := fun f D h => h.1
  have hrv : ∀ f D, LvR xss i f D → ∀ j, j < fcn xss i → ∃ v : Nat, D[j]? = some (v : Int) ∧ v ≤ 400 := fun f D h j hj => by obtain ⟨v, h1, h2, _⟩ := h.2 j hj; exact ⟨v, h1, h2⟩
  have hfl : ∀ f fo D, FoR xss i f fo D → D.length = fcn xss i := fun f fo D h => h.len
  have hfr : ∀ f fo D, FoR xss i f fo D → f < fcn xss i → ∃ v : Nat, D[f]? = some (v : Int) ∧ v < 400 ∧ Lv xss i f v := fun f fo D h hf => h.rest f (Nat.le_refl _) hf
  obtain ⟨n, hn⟩ : ∃ n, flN xss = n := ⟨_, rfl⟩
  rw [hfo]
  rw [hq] at hcl hcp hat hgr hL0 hLS hFO hFN hFL1 hFD hrl hrv hfl hfr ⊢
  rw [hn] at hsys hn2 hn4 hcl hlen holn hat hoa hoc hFL2 hOL2 hF0 hc0
  rw [hFL] at hlen hat hgr hLS
  rw [hOL] at holn hoa hLS
  have HM := Lib.hid hm
  have HX := Lib.hid hx
  have HA := Lib.hid ha
  have HC0 := Lib.hid hc0
  have HS := Lib.hid hsys
  have HLEN := Lib.hid hlen
  have HOLN := Lib.hid holn
  have HAT := Lib.hid hat
  have HOA := Lib.hid hoa
  have HGR := Lib.hid hgr
  have HL0 := Lib.hid hL0
  have HLS := Lib.hid hLS
  have HF0 := Lib.hid hF0
  have HFO := Lib.hid hFO
  have HFN := Lib.hid hFN
  have HF1 := Lib.hid hFL1
  have HFD := Lib.hid hFD
  have HRL := Lib.hid hrl
  have HRV := Lib.hid hrv
  have HFLL := Lib.hid hfl
  have HFR := Lib.hid hfr
  have HFL := Lib.hid hFL2
  have HOL := Lib.hid hOL2
  have HN := Lib.hid hn
  have st0 := (St.start w).addBlk #[.slice (some ⟨b, o, none⟩) N c] 27
  have S0 := Lib.hid st0
  have x0 := (st0.blk (i := 0) rfl).cell (i := 0) rfl
  clear st0 hx ha hm hman hsys hlen holn hat hoa hgr hL0 hLS hF0 hFO hFN hFL1 hFD hrl hrv hfl hfr hq hFL hFL2 hOL hOL2 hfo hn hc0
  go_enter Try.func132, Try.ntmps132
  go_wp2_with fail
  refine (ifaces_any _ HX.out (HA.out.keep S0.out.below) HS.out (cell_be HC0.out S0.out.below) hi hcap hc63 (by omega)).mono ?_
  rintro e w1 ⟨A1, c1, rfl, own, bel⟩
  rw [HFL.out] at own ⊢
  rw [HLEN.out] at own ⊢
  rw [show grtL FL = (q : Int) from HGR.out]
  obtain ⟨g, rfl⟩ := own_shape own (by omega)
  have S1 := Lib.hid (S0.out.addOwn bel own (Nat.le_refl _))
  have x1 := (S1.out.blk (i := 0) rfl).cell (i := 0) rfl
  clear own bel x0
  go_wp2_with fail
  refine (iforb_any _ HM.out HX.out (HA.out.keep S1.out.below)).mono ?_
  rintro e w2 ⟨g2, n2, rfl, hn2', own, bel⟩
  rw [HN.out] at hn2' own
  subst hn2'
  rw [HOL.out] at own
  have S2 := Lib.hid ((S1.out.addOwn bel own (Nat.le_refl _)).addLit1 (.int .i64 400) 2)
  have hlit := own_cell (S2.out.own (i := 3) rfl) (k := 0) rfl
  clear own bel x1
  go_wp2_with fail
  refine (repeat_any (m := q) _ hlit (by omega) (by omega)).mono ?_
  rintro e w3 ⟨A3, c3, rfl, own, bel⟩
  rw [List.length_replicate] at own ⊢
  obtain ⟨g3, rfl⟩ := own_shape own hcp
  have S3 := Lib.hid (show St w w3 (foPs w.heap.size (.slice (some ⟨b, o, none⟩) N c) g n2 c1 FL g2 OL g3 q c3 (List.replicate q 400)) from (S2.out.addOwn bel own (Nat.le_refl _)).drop 3)
  clear own bel hlit S2
  go_wp2
  go_loopw [31] (fun v wr => ∃ (f : Nat) (D : List Int), f ≤ n2 ∧ v = .int .i64 f ∧ St w wr (foPs w.heap.size (.slice (some ⟨b, o, none⟩) N c) g n2 c1 FL g2 OL g3 q c3 D) ∧ LvR xss i f D) (fun v _ => n2 - (intOf v).toNat)
  case atStart => exact ⟨0, _, Nat.zero_le _, rfl, S3.out, HL0.out⟩
  case round =>
    obtain ⟨f, D, hf, rfl, st, hlv⟩ := hrel
    have S := Lib.hid st
    have LV := Lib.hid hlv
    clear st hlv S3
    by_cases hfn : f < n2
    · obtain ⟨j, hj, hjo⟩ := HAT.out f hfn
      obtain ⟨u, hu, huo⟩ := HOA.out f hfn
      obtain ⟨v, hv, hv4⟩ := HRV.out f D LV.out j hj
      have hcj := own_cell (S.out.own (i := 1) rfl) (show (ints FL)[f]? = some (.int .i64 j) by rw [ints, List.getElem?_map, hjo]; rfl)
      have hcu := own_cell (S.out.own (i := 2) rfl) (show (ints OL)[f]? = some (.int .i64 u) by rw [ints, List.getElem?_map, huo]; rfl)
      have hcv := own_cell (S.out.own (i := 3) rfl) (show (ints D)[j]? = some (.int .i64 v) by rw [ints, List.getElem?_map, hv]; rfl)
      have hfj := (S.out.own (i := 3) rfl).frozenAt j
      have LV2 := Lib.hid (HLS.out f j u v D LV.out hjo hj huo (by omega) hv)
      have jI : (j : Int) < (q : Int) := by omega
      clear hjo huo hv
      go_wp2
      go_still_tail 12, (by kernel_rfl)
      have S5 := Lib.hid (show St w _ (foPs w.heap.size (.slice (some ⟨b, o, none⟩) N c) g n2 c1 FL g2 OL g3 q c3 (D.set j (min (v : Int) (u : Int)))) from by
        have h := (S.out.go (below_drewN (Below.refl _ _) 1)).store (i := 3) rfl j (.int .i64 (min (v : Int) (u : Int)))
        rw [ints_set] at h
        exact h)
      go_wp2
      go_roundw
      case rel => exact ⟨f + 1, _, by omega, by go_num, S5.out, LV2.out⟩
      case measure => simp [intOf]; omega
    · obtain rfl : f = n2 := by omega
      have FO := Lib.hid (HF0.out D LV.out)
      have HDL := Lib.hid (HRL.out f D LV.out)
      have S6 := Lib.hid (S.out.addNil 2)
      clear S
      go_wp2
      go_loopw [12, 51] (fun u v wr => ∃ (k s c' : Nat) (A' : Option Addr) (fo D : List Int), k ≤ q ∧ v = .int .i64 k ∧ u = .slice A' s c' ∧ St w wr (foPs w.heap.size (.slice (some ⟨b, o, none⟩) N c) g f c1 FL g2 OL g3 q c3 D ++ [.own 2 A' s c' (ints fo)]) ∧ FoR xss i k fo D) (fun _ v _ => q - (intOf v).toNat)
      case atStart => exact ⟨0, 0, 0, _, [], D, Nat.zero_le _, rfl, rfl, S6.out, FO.out⟩
      case round =>
        obtain ⟨k, s, c', A', fo, D, hk, rfl, rfl, st, hfo⟩ := hrel
        have S := Lib.hid st
        have FR := Lib.hid hfo
        have hsl : fo.length = s := by have := (st.own (i := 4) rfl).1; simpa using this
        have hDl := HFLL.out k fo D hfo
        have hs4 := HF1.out k fo D hfo hk
        clear st hfo S6
        by_cases hkq : k < q
        · obtain ⟨v, hv, hv4, hLv⟩ := HFR.out k fo D FR.out hkq
          have hcv := own_cell (S.out.own (i := 3) rfl) (show (ints D)[k]? = some (.int .i64 v) by rw [ints, List.getElem?_map, hv]; rfl)
          have hfk := (S.out.own (i := 3) rfl).frozenAt k
          have hs5 : s ≤ k := by omega
          have HSL := Lib.hid hsl
          have HV := Lib.hid hv
          have HLV := Lib.hid hLv
          have kI : (k : Int) < (q : Int) := by omega
          clear hv hLv hsl
          go_wp2_with fail
          refine (icont_any _ _ HSL.out (own_rd (S.out.own (i := 4) rfl)) (by omega)).mono ?_
          rintro e w5 ⟨rfl, rfl⟩
          by_cases hin : (v : Int) ∈ fo
          · rw [decide_eq_true hin]
            have FR2 := Lib.hid (HFO.out k v fo D FR.out hkq HLV.out hin)
            clear hin
            go_wp2_with fail
            refine (iidx_any _ _ HSL.out (own_rd (S.out.own (i := 4) rfl)) (by omega)).mono ?_
            rintro e w6 ⟨rfl, rfl⟩
            have S7 := Lib.hid (show St w _ (foPs w.heap.size (.slice (some ⟨b, o, none⟩) N c) g f c1 FL g2 OL g3 q c3 (D.set k (idxL fo (v : Int))) ++ [.own 2 A' s c' (ints fo)]) from by
              have h := S.out.store (i := 3) rfl k (.int .i64 (idxL fo (v : Int)))
              rw [ints_set] at h
              exact h)
            go_wp2
            go_roundw
            case rel => exact ⟨k + 1, s, c', A', fo, _, by omega, by go_num, rfl, S7.out, FR2.out⟩
            case measure => simp [intOf]; omega
          · rw [decide_eq_false hin]
            have FR2 := Lib.hid (HFN.out k v fo D FR.out hkq HLV.out hin)
            have hlo := S.out.lo
            clear hin
            go_wp2_with (at_builtin; refine wpList_push_at _ rfl _ _ 36 2 rfl Try.underlying36 (.int .i64 0) 8 Try.info2 rfl w.heap.size _ _ _ rfl (S.out.own (i := 4) rfl) _ rfl rfl (by omega) (by omega) hlo ?_)
            intro A8 c8 w8 own8 gr8 hat8
            have S7 := Lib.hid (show St w w8 (foPs w.heap.size (.slice (some ⟨b, o, none⟩) N c) g f c1 FL g2 OL g3 q c3 D ++ [.own 2 A8 (s + 1) c8 (ints (fo ++ [(v : Int)]))]) from by
              have h := S.out.push (i := 4) rfl own8 gr8 hat8
              rw [show ints (fo ++ [(v : Int)]) = ints fo ++ [.int .i64 v] by simp [ints]]
              exact h)
            have HSL2 := Lib.hid (show (fo ++ [(v : Int)]).length = s + 1 by simp [HSL.out])
            have hcv2 := own_cell (S7.out.own (i := 3) rfl) (show (ints D)[k]? = some (.int .i64 v) by rw [ints, List.getElem?_map, HV.out]; rfl)
            have hfk2 := (S7.out.own (i := 3) rfl).frozenAt k
            clear own8 gr8 hat8
            go_wp2_with fail
            refine (iidx_any _ _ HSL2.out (own_rd (S7.out.own (i := 4) rfl)) (by omega)).mono ?_
            rintro e w6 ⟨rfl, rfl⟩
            have S8 := Lib.hid (show St w _ (foPs w.heap.size (.slice (some ⟨b, o, none⟩) N c) g f c1 FL g2 OL g3 q c3 (D.set k (idxL (fo ++ [(v : Int)]) (v : Int))) ++ [.own 2 A8 (s + 1) c8 (ints (fo ++ [(v : Int)]))]) from by
              have h := S7.out.store (i := 3) rfl k (.int .i64 (idxL (fo ++ [(v : Int)]) (v : Int)))
              rw [ints_set] at h
              exact h)
            go_wp2
            go_roundw
            case rel => exact ⟨k + 1, s + 1, c8, A8, _, _, by omega, by go_num, rfl, S8.out, FR2.out⟩
            case measure => simp [intOf]; omega
        · obtain rfl : k = q := by omega
          obtain rfl := HFD.out fo D FR.out
          go_wp2
          go_ret
          exact ⟨_, c3, rfl, S.out.own (i := 3) rfl, S.out.below⟩
end Go.Proofs.Ytmgoaabeopnopaa
