/- Sections of sections: what the moves of a section reach is what they reach in the maniplex, numbered anew. Plain facts. -/
import Derived.Test.YtmgoaabeopnopaaL16
namespace Go.Proofs.Ytmgoaabeopnopaa
open Go.RowKit

theorem bfs_add {xss : List (List Int)} {R : List Int} : ∀ (f k : Nat) (O : List Int) (i : Nat), bfs xss R (f + k) O i = bfs xss R k (bfs xss R f O i) (i + f)
  | 0, k, O, i => by simp [bfs]
  | f + 1, k, O, i => by
    rw [show f + 1 + k = (f + k) + 1 by omega]
    cases h : O[i]? with
    | none =>
      have hl : O.length ≤ i := by simpa using h
      rw [bfs_done (by omega), bfs_done (f := f + 1) (by omega), bfs_done (by omega)]
    | some x =>
      rw [bfs, bfs, h]
      simp only
      rw [bfs_add f k, show i + (f + 1) = i + 1 + f by omega]
section
variable {zs : List (List Int)} {n l : Nat} {ord m : List Int} {x y : Int}
theorem fz_row (hx0 : 0 ≤ x) (hx1 : x < (ord.length : Int)) : fz (secRow ord m) x = idxL ord (fz m (fz ord x)) := by
  obtain ⟨k, rfl⟩ := Int.eq_ofNat_of_zero_le hx0
  have hk : k < ord.length := by omega
  have h1 := List.getElem?_eq_getElem hk
  rw [fz_at h1]
  refine fz_at ?_
  rw [secRow, List.getElem?_map, h1]
  rfl
theorem fz_mem {k : Int} (h0 : 0 ≤ k) (h1 : k < (ord.length : Int)) : fz ord k ∈ ord := by
  obtain ⟨k, rfl⟩ := Int.eq_ofNat_of_zero_le h0
  have h2 := List.getElem?_eq_getElem (show k < ord.length by omega)
  rw [fz_at h2]
  exact List.getElem_mem _
theorem fz_idx (h : x ∈ ord) : 0 ≤ idxL ord x ∧ idxL ord x < (ord.length : Int) ∧ fz ord (idxL ord x) = x := by
  have h0 : 0 ≤ idxL ord x := by simpa [h] using idxL_mem ord x
  refine ⟨h0, (idxL_bd ord x).2, ?_⟩
  have := idxL_get h
  obtain ⟨k, hk⟩ := Int.eq_ofNat_of_zero_le h0
  rw [hk] at this ⊢
  exact fz_at this
theorem fz_ninj (hnd : ord.Nodup) (hx0 : 0 ≤ x) (hx1 : x < (ord.length : Int)) (hy0 : 0 ≤ y) (hy1 : y < (ord.length : Int)) (h : fz ord x = fz ord y) : x = y := by
  obtain ⟨a, rfl⟩ := Int.eq_ofNat_of_zero_le hx0
  obtain ⟨b, rfl⟩ := Int.eq_ofNat_of_zero_le hy0
  have h1 := List.getElem?_eq_getElem (show a < ord.length by omega)
  have h2 := List.getElem?_eq_getElem (show b < ord.length by omega)
  rw [fz_at h1, fz_at h2] at h
  have := (List.getElem_inj hnd).1 h
  omega
/-- A list of numbers of the section, each in range. -/
def InS (l : Nat) (O : List Int) : Prop := ∀ x ∈ O, 0 ≤ x ∧ x < (l : Int)
theorem mem_map_fz {O : List Int} (hnd : ord.Nodup) (hO : InS ord.length O) (h0 : 0 ≤ y) (h1 : y < (ord.length : Int)) : fz ord y ∈ O.map (fz ord) ↔ y ∈ O := by
  constructor
  · intro h
    obtain ⟨z, hz, he⟩ := List.mem_map.1 h
    rw [← fz_ninj hnd (hO z hz).1 (hO z hz).2 h0 h1 he]
    exact hz
  · exact fun h => List.mem_map.2 ⟨y, h, rfl⟩
theorem gen_map {O : List Int} (hnd : ord.Nodup) (hcl : ∀ z ∈ ord, fz m z ∈ ord) (hO : InS ord.length O) (hx0 : 0 ≤ x) (hx1 : x < (ord.length : Int)) :
    InS ord.length (genStep [] x O (secRow ord m)) ∧ (genStep [] x O (secRow ord m)).map (fz ord) = genStep [] (fz ord x) (O.map (fz ord)) m := by
  have hm := hcl _ (fz_mem hx0 hx1)
  obtain ⟨i0, i1, i2⟩ := fz_idx hm
  have he : (secRow ord m).getD x.toNat 0 = idxL ord (fz m (fz ord x)) := fz_row hx0 hx1
  have he2 : m.getD (fz ord x).toNat 0 = fz ord (idxL ord (fz m (fz ord x))) := by rw [i2]; rfl
  unfold genStep
  rw [he, he2]
  simp only [List.nil_append]
  by_cases h : idxL ord (fz m (fz ord x)) ∈ O
  · rw [if_pos h, if_pos ((mem_map_fz hnd hO i0 i1).2 h)]
    exact ⟨hO, rfl⟩
  · rw [if_neg h, if_neg fun h2 => h ((mem_map_fz hnd hO i0 i1).1 h2)]
    refine ⟨fun z hz => ?_, by simp⟩
    rcases List.mem_append.1 hz with h1 | h1
    · exact hO z h1
    · simp at h1
      subst h1
      exact ⟨i0, i1⟩
theorem bfsG_map (hnd : ord.Nodup) (hx0 : 0 ≤ x) (hx1 : x < (ord.length : Int)) : ∀ (gs : List (List Int)) (O : List Int), (∀ m ∈ gs, ∀ z ∈ ord, fz m z ∈ ord) → InS ord.length O →
    InS ord.length (bfsG [] x (gs.map (secRow ord)) O) ∧ (bfsG [] x (gs.map (secRow ord)) O).map (fz ord) = bfsG [] (fz ord x) gs (O.map (fz ord))
  | [], O, _, hO => ⟨hO, rfl⟩
  | m :: gs, O, hcl, hO => by
    obtain ⟨h1, h2⟩ := gen_map (m := m) hnd (hcl m (by simp)) hO hx0 hx1
    obtain ⟨h3, h4⟩ := bfsG_map hnd hx0 hx1 gs _ (fun m hm => hcl m (by simp [hm])) h1
    refine ⟨h3, ?_⟩
    rw [show bfsG [] x ((m :: gs).map (secRow ord)) O = bfsG [] x (gs.map (secRow ord)) (genStep [] x O (secRow ord m)) from rfl, h4, h2]
    rfl
theorem bfs_map (hnd : ord.Nodup) (hcl : ∀ m ∈ zs, ∀ z ∈ ord, fz m z ∈ ord) : ∀ (f : Nat) (O : List Int) (i : Nat), InS ord.length O →
    InS ord.length (bfs (zs.map (secRow ord)) [] f O i) ∧ (bfs (zs.map (secRow ord)) [] f O i).map (fz ord) = bfs zs [] f (O.map (fz ord)) i
  | 0, O, i, hO => ⟨hO, rfl⟩
  | f + 1, O, i, hO => by
    cases h : O[i]? with
    | none =>
      have hl : O.length ≤ i := by simpa using h
      rw [bfs_done hl, bfs_done (by simpa using hl)]
      exact ⟨hO, rfl⟩
    | some x =>
      have hx := hO x (List.mem_of_getElem? h)
      obtain ⟨h1, h2⟩ := bfsG_map hnd hx.1 hx.2 zs O hcl hO
      obtain ⟨h3, h4⟩ := bfs_map hnd hcl f (bfsG [] x (zs.map (secRow ord)) O) (i + 1) h1
      have e1 : bfs (zs.map (secRow ord)) [] (f + 1) O i = bfs (zs.map (secRow ord)) [] f (bfsG [] x (zs.map (secRow ord)) O) (i + 1) := by rw [bfs, h]
      have e2 : bfs zs [] (f + 1) (O.map (fz ord)) i = bfs zs [] f (bfsG [] (fz ord x) zs (O.map (fz ord))) (i + 1) := by rw [bfs, List.getElem?_map, h]; rfl
      rw [e1, e2, ← h2]
      exact ⟨h3, h4⟩
theorem idx_map {O : List Int} (hnd : ord.Nodup) (hO : InS ord.length O) (hO2 : O.Nodup) (hy : y ∈ O) : idxL (O.map (fz ord)) (fz ord y) = idxL O y := by
  obtain ⟨k, hk, he⟩ := List.mem_iff_getElem.1 hy
  have hg : O[k]? = some y := by rw [List.getElem?_eq_getElem hk, he]
  rw [idx_nodup hO2 hg]
  refine idx_nodup ?_ (by rw [List.getElem?_map, hg]; rfl)
  refine List.pairwise_map.2 (List.Pairwise.imp_of_mem ?_ hO2)
  intro a b ha hb hab h
  exact hab (fz_ninj hnd (hO a ha).1 (hO a ha).2 (hO b hb).1 (hO b hb).2 h)
end
section
variable {yss zs : List (List Int)} {n l f q : Nat}
/-- The orbit of some of the moves of a section is that of these moves in the maniplex. -/
theorem orb_map (hsys : okSys n yss = true) (hf : f < n) (hl : (orbL yss n f).length = l) (hz : ∀ m ∈ zs, m ∈ yss) (hzs : okSys l (zs.map (secRow (orbL yss n f))) = true) (hq : q < l) :
    InS l (orbL (zs.map (secRow (orbL yss n f))) l q) ∧ (orbL (zs.map (secRow (orbL yss n f))) l q).map (fz (orbL yss n f)) = orbL zs n (fz (orbL yss n f) q) := by
  obtain ⟨hpa, hfm, hcl⟩ := orb_facts hsys hf
  obtain ⟨opa, _, _⟩ := orb_facts hzs hq
  have hin : InS (orbL yss n f).length [(q : Int)] := fun x hx => by simp at hx; omega
  obtain ⟨h1, h2⟩ := bfs_map (zs := zs) hpa.2 (fun m hm z hz' => hcl m (hz m hm) z hz') l [(q : Int)] 0 hin
  rw [hl] at h1
  refine ⟨h1, ?_⟩
  have hle : l ≤ n := by rw [← hl]; exact passed_len hpa
  have hlen := passed_len opa
  obtain ⟨ord, hord⟩ : ∃ o, orbL yss n f = o := ⟨_, rfl⟩
  rw [hord] at hlen h2 ⊢
  have e : ∀ (us : List (List Int)) (k : Nat) (p : Int), orbL us k p = bfs us [] k [p] 0 := fun _ _ _ => rfl
  rw [e] at hlen ⊢
  rw [e, h2]
  have h3 := congrArg List.length h2
  rw [List.length_map] at h3
  obtain ⟨d, rfl⟩ := Nat.exists_eq_add_of_le hle
  rw [bfs_add l d]
  simp only [List.map_cons, List.map_nil] at h3 ⊢
  rw [bfs_done (f := d) (by omega)]
theorem map_cut (a b : Nat) (ord : List Int) : ((yss.drop a).take b).map (secRow ord) = (((yss.map (secRow ord)).drop a).take b) := by
  rw [List.map_take, List.map_drop]
/-- A section of a section is a section. -/
theorem secL_secL (hsys : okSys n yss = true) (hf : f < n) (hl : (orbL yss n f).length = l) (hq : q < l) (a b : Nat) :
    secL (((secL yss n f).drop a).take b) l q = secL ((yss.drop a).take b) n (fz (orbL yss n f) q).toNat := by
  obtain ⟨hpa, hfm, hcl⟩ := orb_facts hsys hf
  have hz : ∀ m ∈ (yss.drop a).take b, m ∈ yss := fun m hm => List.mem_of_mem_drop (List.mem_of_mem_take hm)
  have hss := secL_sys hsys hf hl
  have hzs : okSys l (((yss.drop a).take b).map (secRow (orbL yss n f))) = true := by rw [map_cut]; exact okSys_cut hss a b
  obtain ⟨h1, h2⟩ := orb_map hsys hf hl hz hzs hq
  obtain ⟨opa, _, ocl⟩ := orb_facts hzs hq
  have hfq := fz_mem (ord := orbL yss n f) (k := (q : Int)) (by omega) (by omega)
  have hfi := hpa.1 _ hfq
  have he : (((fz (orbL yss n f) q).toNat : Nat) : Int) = fz (orbL yss n f) q := by omega
  have e0 : ((secL yss n f).drop a).take b = ((yss.drop a).take b).map (secRow (orbL yss n f)) := by rw [map_cut]; rfl
  rw [e0]
  unfold secL
  rw [List.map_map, he, ← h2]
  refine List.map_congr_left fun m hm => ?_
  obtain ⟨Q, hQ⟩ : ∃ Q, orbL (((yss.drop a).take b).map (secRow (orbL yss n f))) l q = Q := ⟨_, rfl⟩
  rw [hQ] at h1 opa ocl ⊢
  have e3 : ∀ (o : List Int) (r : List Int), secRow o r = o.map fun x => idxL o (fz r x) := fun _ _ => rfl
  rw [Function.comp, e3 Q, e3 (Q.map _), List.map_map]
  refine List.map_congr_left fun x hx => ?_
  rw [← hl] at h1
  have hx1 := h1 x hx
  have hrow := fz_row (m := m) hx1.1 hx1.2
  have hcm := hcl m (hz m hm) _ (fz_mem hx1.1 hx1.2)
  have hin := ocl _ (List.mem_map.2 ⟨m, hm, rfl⟩) x hx
  have hi3 := (fz_idx hcm).2.2
  rw [Function.comp, ← hi3, ← hrow]
  rw [idx_map hpa.2 h1 opa.2 hin]
/-- The flags of a section are numbered in the order in which its moves reach them from the first one. -/
theorem secL_order (hsys : okSys n yss = true) (hf : f < n) (hl : (orbL yss n f).length = l) (h0 : (orbL yss n f)[0]? = some (f : Int)) : orbL (secL yss n f) l ((0 : Nat) : Int) = (List.range l).map fun (j : Nat) => (j : Int) := by
  obtain ⟨hpa, hfm, hcl⟩ := orb_facts hsys hf
  have hss := secL_sys hsys hf hl
  have hlpos : 0 < l := by rw [← hl]; exact List.length_pos_of_mem hfm
  obtain ⟨h1, h2⟩ := orb_map (q := 0) hsys hf hl (fun m hm => hm) hss hlpos
  rw [show fz (orbL yss n f) ((0 : Nat) : Int) = (f : Int) from fz_at h0] at h2
  change InS l (orbL (secL yss n f) l ((0 : Nat) : Int)) at h1
  change (orbL (secL yss n f) l ((0 : Nat) : Int)).map (fz (orbL yss n f)) = orbL yss n f at h2
  obtain ⟨Q, hQ⟩ : ∃ Q, orbL (secL yss n f) l ((0 : Nat) : Int) = Q := ⟨_, rfl⟩
  rw [hQ] at h1 h2 ⊢
  have hlen := congrArg List.length h2
  rw [List.length_map, hl] at hlen
  refine List.ext_getElem (by rw [hlen]; simp) fun j hj1 hj2 => ?_
  have hjl : j < l := by omega
  have hx := h1 _ (List.getElem_mem hj1)
  have hg : (orbL yss n f)[j]? = some (fz (orbL yss n f) Q[j]) := by
    conv => lhs; rw [← h2]
    rw [List.getElem?_map, List.getElem?_eq_getElem hj1]
    rfl
  have hg2 : (orbL yss n f)[j]? = some (fz (orbL yss n f) ((j : Nat) : Int)) := by
    have := List.getElem?_eq_getElem (show j < (orbL yss n f).length by omega)
    rw [this, fz_at this]
  rw [hg] at hg2
  injection hg2 with hg2
  have := fz_ninj hpa.2 hx.1 (by omega) (y := (j : Int)) (by omega) (by omega) hg2
  simp [this]
theorem ext_fz {a b : List Int} {n : Nat} (ha : a.length = n) (hb : b.length = n) (h : ∀ k : Nat, k < n → fz a k = fz b k) : a = b := by
  refine List.ext_getElem (by omega) fun j h1 h2 => ?_
  have := h j (by omega)
  rwa [fz_at (List.getElem?_eq_getElem h1), fz_at (List.getElem?_eq_getElem h2)] at this
theorem fz_unit {n : Nat} {k : Nat} (hk : k < n) : fz (unitL n) k = k := fz_at (by simp [unitL, hk])
theorem inv_unit {n : Nat} (hn : n ≤ 400) : invL (unitL n) = unitL n := by
  have hl : (unitL n).length = n := by simp [unitL]
  refine ext_fz (n := n) (by rw [invL_len, hl]) hl fun k hk => ?_
  have := fz_inv hl (okP_unit hn) (x := (k : Int)) (by omega) (by omega)
  rw [fz_unit hk] at this ⊢
  exact this
theorem conj_unit {n : Nat} {m : List Int} (hn : n ≤ 400) (hl : m.length = n) (hp : okP m = true) : conjL m (unitL n) = m := by
  have hu : (unitL n).length = n := by simp [unitL]
  refine ext_fz (n := n) (conj_len hu) hl fun k hk => ?_
  have := fz_conj hl hu hp (okP_unit hn) (x := (k : Int)) (by omega) (by omega)
  rw [fz_unit hk] at this
  rw [this]
  have hi := fz_in hl hp (x := (k : Int)) (by omega) (by omega)
  obtain ⟨z, hz⟩ := Int.eq_ofNat_of_zero_le hi.1
  rw [hz, fz_unit (by omega)]
/-- The form from the flag 0 of a section is the section. -/
theorem frm_sec (hsys : okSys n yss = true) (hf : f < n) (hl : (orbL yss n f).length = l) (h0 : (orbL yss n f)[0]? = some (f : Int)) : frmL (secL yss n f) l 0 = secL yss n f := by
  have hss := secL_sys hsys hf hl
  have h4 := (sys_parts hss).2.1
  unfold frmL renM
  rw [secL_order hsys hf hl h0, show ((List.range l).map fun (j : Nat) => (j : Int)) = unitL l from rfl, inv_unit (by omega)]
  conv => rhs; rw [← List.map_id (secL yss n f)]
  refine List.map_congr_left fun m hm => ?_
  have hr := (sys_parts hss).2.2.2 m hm
  exact conj_unit (by omega) (by omega) hr.2
theorem polL_mem {x : Int} : x ∈ polL yss n ↔ ∃ p, p < n ∧ ((orbL yss n p).length : Int) / 2 = x := by
  unfold polL
  rw [(sortL_perm _).mem_iff, ddTo_mem]
/-- The polygons of a section are polygons of the maniplex. -/
theorem pol_sec (hsys : okSys n yss = true) (hf : f < n) (hl : (orbL yss n f).length = l) (j : Nat) {x : Int} (hx : x ∈ polL (((secL yss n f).drop j).take 2) l) : x ∈ polL ((yss.drop j).take 2) n := by
  obtain ⟨q, hq, he⟩ := polL_mem.1 hx
  obtain ⟨hpa, hfm, hcl⟩ := orb_facts hsys hf
  have hz : ∀ m ∈ (yss.drop j).take 2, m ∈ yss := fun m hm => List.mem_of_mem_drop (List.mem_of_mem_take hm)
  have hss := secL_sys hsys hf hl
  have e0 : ((secL yss n f).drop j).take 2 = ((yss.drop j).take 2).map (secRow (orbL yss n f)) := by rw [map_cut]; rfl
  have hzs : okSys l (((yss.drop j).take 2).map (secRow (orbL yss n f))) = true := by rw [map_cut]; exact okSys_cut hss j 2
  obtain ⟨_, h2⟩ := orb_map hsys hf hl hz hzs hq
  have hfi := hpa.1 _ (fz_mem (ord := orbL yss n f) (k := (q : Int)) (by omega) (by omega))
  have h3 := congrArg List.length h2
  rw [List.length_map, ← e0] at h3
  refine polL_mem.2 ⟨(fz (orbL yss n f) q).toNat, by omega, ?_⟩
  rw [show (((fz (orbL yss n f) q).toNat : Nat) : Int) = fz (orbL yss n f) q by omega, ← h3]
  exact he
end
end Go.Proofs.Ytmgoaabeopnopaa
