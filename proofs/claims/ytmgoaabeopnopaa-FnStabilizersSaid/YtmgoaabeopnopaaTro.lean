/- Total order of lists of moves; the least form is the least of the forms; maniplexes that are the same up to the numbers of their flags have the same forms. Plain facts. -/
import Derived.Test.YtmgoaabeopnopaaTrs
namespace Go.Proofs.Ytmgoaabeopnopaa
open Go.RowKit

theorem cmpL_anti : ∀ a b : List Int, cmpL a b = -cmpL b a
  | [], [] => rfl
  | [], _ :: _ => rfl
  | _ :: _, [] => rfl
  | x :: a, y :: b => by
    have ih := cmpL_anti a b
    unfold cmpL
    split <;> split <;> first | omega | (split <;> omega)
theorem cmpLL_anti : ∀ a b : List (List Int), cmpLL a b = -cmpLL b a
  | [], [] => rfl
  | [], _ :: _ => rfl
  | _ :: _, [] => rfl
  | x :: a, y :: b => by
    have ih := cmpLL_anti a b
    have h := cmpL_anti x y
    unfold cmpLL
    split <;> split <;> omega
theorem cmpL_trans : ∀ a b c : List Int, cmpL a b ≤ 0 → cmpL b c ≤ 0 → cmpL a c ≤ 0
  | [], _, [], _, _ => by simp [cmpL]
  | [], _, _ :: _, _, _ => by simp [cmpL]
  | _ :: _, [], _, h, _ => by simp [cmpL] at h
  | _ :: _, _ :: _, [], _, h => by simp [cmpL] at h
  | x :: a, y :: b, z :: c, h1, h2 => by
    have ih := cmpL_trans a b c
    unfold cmpL at h1 h2 ⊢
    by_cases e1 : x < z
    · rw [if_pos e1]; omega
    · rw [if_neg e1]
      by_cases e2 : x < y
      · have e3 : z < y := by omega
        rw [if_neg (by omega), if_pos e3] at h2
        omega
      · rw [if_neg e2] at h1
        by_cases e3 : y < x
        · rw [if_pos e3] at h1; omega
        · rw [if_neg e3] at h1
          have e : x = y := by omega
          subst e
          rw [if_neg e1] at h2
          by_cases e4 : z < x
          · rw [if_pos e4] at h2; omega
          · rw [if_neg e4] at h2 ⊢
            exact ih h1 h2
theorem cmpL_le_anti {a b : List Int} (h1 : cmpL a b ≤ 0) (h2 : cmpL b a ≤ 0) : a = b := (cmpL_zero a b).1 (by have := cmpL_anti a b; omega)
theorem cmpLL_zero : ∀ a b : List (List Int), cmpLL a b = 0 → a = b
  | [], [], _ => rfl
  | [], _ :: _, h => by simp [cmpLL] at h
  | _ :: _, [], h => by simp [cmpLL] at h
  | x :: a, y :: b, h => by
    unfold cmpLL at h
    split at h
    · rename_i h1
      rw [(cmpL_zero x y).1 h1, cmpLL_zero a b h]
    · rename_i h1
      exact absurd h h1
theorem cmpL_self (a : List Int) : cmpL a a = 0 := (cmpL_zero a a).2 rfl
theorem cmpLL_self : ∀ a : List (List Int), cmpLL a a = 0
  | [] => rfl
  | x :: a => by unfold cmpLL; rw [cmpL_self, if_pos rfl]; exact cmpLL_self a
theorem cmpLL_trans : ∀ a b c : List (List Int), cmpLL a b ≤ 0 → cmpLL b c ≤ 0 → cmpLL a c ≤ 0
  | [], _, [], _, _ => by simp [cmpLL]
  | [], _, _ :: _, _, _ => by simp [cmpLL]
  | _ :: _, [], _, h, _ => by simp [cmpLL] at h
  | _ :: _, _ :: _, [], _, h => by simp [cmpLL] at h
  | x :: a, y :: b, z :: c, h1, h2 => by
    have ih := cmpLL_trans a b c
    unfold cmpLL at h1 h2 ⊢
    by_cases e1 : cmpL x y = 0
    · have := (cmpL_zero x y).1 e1
      subst this
      rw [if_pos e1] at h1
      split
      · rename_i e2
        rw [if_pos e2] at h2
        exact ih h1 h2
      · rename_i e2
        rw [if_neg e2] at h2
        exact h2
    · rw [if_neg e1] at h1
      by_cases e2 : cmpL y z = 0
      · have := (cmpL_zero y z).1 e2
        subst this
        rw [if_neg e1]
        exact h1
      · rw [if_neg e2] at h2
        have h3 := cmpL_trans x y z h1 h2
        split
        · rename_i e3
          have := (cmpL_zero x z).1 e3
          subst this
          have := cmpL_anti x y
          omega
        · exact h3
/-- The least form is one of the forms, and none is less. -/
theorem lst_min (xss : List (List Int)) (n : Nat) : ∀ k, (∃ p, p ≤ k ∧ lstTo xss n k = frmL xss n p) ∧ ∀ p, p ≤ k → cmpLL (lstTo xss n k) (frmL xss n p) ≤ 0
  | 0 => ⟨⟨0, Nat.le_refl _, rfl⟩, fun p hp => by
    obtain rfl : p = 0 := by omega
    rw [lstTo, cmpLL_self]; omega⟩
  | k + 1 => by
    obtain ⟨⟨p0, hp0, he⟩, hm⟩ := lst_min xss n k
    unfold lstTo
    by_cases h : cmpLL (frmL xss n (k + 1)) (lstTo xss n k) < 0
    · rw [if_pos h]
      refine ⟨⟨k + 1, Nat.le_refl _, rfl⟩, fun p hp => ?_⟩
      rcases Nat.lt_succ_iff_lt_or_eq.1 (Nat.lt_succ_of_le hp) with h1 | rfl
      · exact cmpLL_trans _ _ _ (by omega) (hm p (by omega))
      · rw [cmpLL_self]; omega
    · rw [if_neg h]
      refine ⟨⟨p0, by omega, he⟩, fun p hp => ?_⟩
      rcases Nat.lt_succ_iff_lt_or_eq.1 (Nat.lt_succ_of_le hp) with h1 | rfl
      · exact hm p (by omega)
      · have := cmpLL_anti (frmL xss n (k + 1)) (lstTo xss n k)
        omega
theorem lst_eq {xss yss : List (List Int)} {n m k j : Nat} (h1 : ∀ p, p ≤ k → ∃ q, q ≤ j ∧ frmL xss n p = frmL yss m q) (h2 : ∀ q, q ≤ j → ∃ p, p ≤ k ∧ frmL xss n p = frmL yss m q) : lstTo xss n k = lstTo yss m j := by
  obtain ⟨⟨p0, hp0, he⟩, hm⟩ := lst_min xss n k
  obtain ⟨⟨q0, hq0, he'⟩, hm'⟩ := lst_min yss m j
  refine cmpLL_zero _ _ ?_
  have a : cmpLL (lstTo xss n k) (lstTo yss m j) ≤ 0 := by
    obtain ⟨p, hp, hpe⟩ := h2 q0 hq0
    rw [he', ← hpe]
    exact hm p hp
  have b : cmpLL (lstTo yss m j) (lstTo xss n k) ≤ 0 := by
    obtain ⟨q, hq, hqe⟩ := h1 p0 hp0
    rw [he, hqe]
    exact hm' q hq
  have := cmpLL_anti (lstTo xss n k) (lstTo yss m j)
  omega

/-- What is reached, under a map that takes the one system's moves over into the other one's. -/
structure Tr (S : Int → Prop) (ψ : Int → Int) (zs us : List (List Int)) : Prop where
  inj : ∀ a b, S a → S b → ψ a = ψ b → a = b
  len : zs.length = us.length
  mv : ∀ (i : Nat) (g h : List Int), zs[i]? = some g → us[i]? = some h → ∀ x, S x → S (fz g x) ∧ ψ (fz g x) = fz h (ψ x)
section
variable {S : Int → Prop} {ψ : Int → Int} {zs us : List (List Int)}
theorem tr_gen {O g h : List Int} {x : Int} (inj : ∀ a b, S a → S b → ψ a = ψ b → a = b) (hO : ∀ a ∈ O, S a) (hg : S (fz g x) ∧ ψ (fz g x) = fz h (ψ x)) :
    (∀ a ∈ genStep [] x O g, S a) ∧ (genStep [] x O g).map ψ = genStep [] (ψ x) (O.map ψ) h := by
  have e1 : g.getD x.toNat 0 = fz g x := rfl
  have e2 : h.getD (ψ x).toNat 0 = fz h (ψ x) := rfl
  have hm : fz h (ψ x) ∈ O.map ψ ↔ fz g x ∈ O := by
    rw [← hg.2]
    constructor
    · intro hin
      obtain ⟨z, hz, he⟩ := List.mem_map.1 hin
      rw [← inj z _ (hO z hz) hg.1 he]
      exact hz
    · exact fun hin => List.mem_map.2 ⟨_, hin, rfl⟩
  unfold genStep
  rw [e1, e2]
  simp only [List.nil_append]
  by_cases hin : fz g x ∈ O
  · rw [if_pos hin, if_pos (hm.2 hin)]
    exact ⟨hO, rfl⟩
  · rw [if_neg hin, if_neg fun h2 => hin (hm.1 h2)]
    refine ⟨fun z hz => ?_, by simp [hg.2]⟩
    rcases List.mem_append.1 hz with h1 | h1
    · exact hO z h1
    · simp at h1
      rw [h1]
      exact hg.1
theorem tr_bfsG {x : Int} (inj : ∀ a b, S a → S b → ψ a = ψ b → a = b) (hx : S x) : ∀ (zs us : List (List Int)) (O : List Int), zs.length = us.length → (∀ (i : Nat) (g h : List Int), zs[i]? = some g → us[i]? = some h → S (fz g x) ∧ ψ (fz g x) = fz h (ψ x)) → (∀ a ∈ O, S a) →
    (∀ a ∈ bfsG [] x zs O, S a) ∧ (bfsG [] x zs O).map ψ = bfsG [] (ψ x) us (O.map ψ)
  | [], [], O, _, _, hO => ⟨hO, rfl⟩
  | [], _ :: _, O, h, _, _ => by simp at h
  | _ :: _, [], O, h, _, _ => by simp at h
  | g :: zs, h :: us, O, hl, hm, hO => by
    obtain ⟨h1, h2⟩ := tr_gen (O := O) inj hO (hm 0 g h rfl rfl)
    obtain ⟨h3, h4⟩ := tr_bfsG inj hx zs us (genStep [] x O g) (by simpa using hl) (fun i g' h' hg' hh' => hm (i + 1) g' h' (by simpa using hg') (by simpa using hh')) h1
    rw [h2] at h4
    exact ⟨h3, h4⟩
theorem tr_bfs (t : Tr S ψ zs us) : ∀ (f : Nat) (O : List Int) (i : Nat), (∀ a ∈ O, S a) → (∀ a ∈ bfs zs [] f O i, S a) ∧ (bfs zs [] f O i).map ψ = bfs us [] f (O.map ψ) i
  | 0, O, i, hO => ⟨hO, rfl⟩
  | f + 1, O, i, hO => by
    cases h : O[i]? with
    | none =>
      have hl : O.length ≤ i := by simpa using h
      rw [bfs_done hl, bfs_done (by simpa using hl)]
      exact ⟨hO, rfl⟩
    | some x =>
      have hx := hO x (List.mem_of_getElem? h)
      obtain ⟨h1, h2⟩ := tr_bfsG t.inj hx zs us O t.len (fun i g h hg hh => t.mv i g h hg hh x hx) hO
      obtain ⟨h3, h4⟩ := tr_bfs t f (bfsG [] x zs O) (i + 1) h1
      have e1 : bfs zs [] (f + 1) O i = bfs zs [] f (bfsG [] x zs O) (i + 1) := by rw [bfs, h]
      have e2 : bfs us [] (f + 1) (O.map ψ) i = bfs us [] f (bfsG [] (ψ x) us (O.map ψ)) (i + 1) := by rw [bfs, List.getElem?_map, h]; rfl
      rw [e1, e2, ← h2]
      exact ⟨h3, h4⟩
theorem tr_idx (t : Tr S ψ zs us) {O : List Int} (hO : ∀ a ∈ O, S a) (hnd : O.Nodup) {y : Int} (hy : y ∈ O) : idxL (O.map ψ) (ψ y) = idxL O y := by
  obtain ⟨k, hk, he⟩ := List.mem_iff_getElem.1 hy
  have hg : O[k]? = some y := by rw [List.getElem?_eq_getElem hk, he]
  rw [idx_nodup hnd hg]
  refine idx_nodup ?_ (by rw [List.getElem?_map, hg]; rfl)
  refine List.pairwise_map.2 (List.Pairwise.imp_of_mem ?_ hnd)
  intro a b ha hb hab h
  exact hab (t.inj a b (hO a ha) (hO b hb) h)
/-- Orbits, and the forms from flags, go over into each other. -/
theorem tr_orb (t : Tr S ψ zs us) {n : Nat} {x : Int} (hx : S x) : (∀ a ∈ orbL zs n x, S a) ∧ (orbL zs n x).map ψ = orbL us n (ψ x) := by
  have := tr_bfs t n [x] 0 (by simpa using hx)
  exact this
theorem tr_sec (t : Tr S ψ zs us) {n p q : Nat} (hs : okSys n zs = true) (hp : p < n) (hx : S p) (hq : ψ p = q) : secL zs n p = secL us n q := by
  obtain ⟨hpa, hm, hcl⟩ := orb_facts hs hp
  obtain ⟨h1, h2⟩ := tr_orb t (n := n) hx
  rw [hq] at h2
  unfold secL
  rw [← h2]
  obtain ⟨O, hO⟩ : ∃ O, orbL zs n p = O := ⟨_, rfl⟩
  rw [hO] at hpa hcl h1 ⊢
  refine List.ext_getElem (by simp [t.len]) fun j hj1 hj2 => ?_
  rw [List.length_map] at hj1 hj2
  rw [List.getElem_map, List.getElem_map]
  have hcg := hcl _ (List.getElem_mem hj1)
  have hmv := t.mv j _ _ (List.getElem?_eq_getElem hj1) (List.getElem?_eq_getElem hj2)
  have e3 : ∀ (o : List Int) (r : List Int), secRow o r = o.map fun x => idxL o (fz r x) := fun _ _ => rfl
  rw [e3, e3, List.map_map]
  refine List.map_congr_left fun x hx => ?_
  rw [Function.comp, ← (hmv x (h1 x hx)).2, tr_idx t h1 hpa.2 (hcg x hx)]
end
section
variable {xss yss : List (List Int)} {n p : Nat}
/-- The form from a flag of a whole maniplex is its section of all ranks at it. -/
theorem frm_eq_sec (hsys : okSys n xss = true) (hp : p < n) (hall : (orbL xss n p).length = n) : frmL xss n p = secL xss n p := by
  obtain ⟨hpa, hm, hcl⟩ := orb_facts hsys hp
  have hok := okP_orb hsys hp hall
  unfold frmL renM secL
  refine List.map_congr_left fun m hmm => ?_
  have hr := (sys_parts hsys).2.2.2 m hmm
  have hl : m.length = n := by omega
  have hcm := hcl m hmm
  obtain ⟨O, hO⟩ : ∃ O, orbL xss n p = O := ⟨_, rfl⟩
  rw [hO] at hpa hok hall hcm ⊢
  refine ext_fz (n := n) (conj_len (by rw [invL_len, hall])) (by rw [secRow_len, hall]) fun k hk => ?_
  rw [fz_row (by omega) (by omega)]
  have hg : O[k]? = some O[k] := List.getElem?_eq_getElem (by omega)
  have hx := hpa.1 _ (List.getElem_mem (show k < O.length by omega))
  have hfk : fz O k = O[k] := fz_at hg
  have hinv := fz_inv hall hok (x := (k : Int)) (by omega) (by omega)
  have hc := fz_conj hl (show (invL O).length = n by rw [invL_len, hall]) hr.2 (okP_inv hok) hx.1 hx.2
  rw [hfk] at hinv ⊢
  rw [hinv] at hc
  rw [hc]
  have hin := fz_idx (hcm _ (List.getElem_mem (show k < O.length by omega)))
  have hinv2 := fz_inv hall hok (x := idxL O (fz m O[k])) hin.1 (by omega)
  rw [hin.2.2] at hinv2
  exact hinv2
theorem inj_onto {φ : Nat → Nat} (im : ∀ k, k < n → φ k < n) (inj : ∀ j k, j < n → k < n → φ j = φ k → j = k) {q : Nat} (hq : q < n) : ∃ p, p < n ∧ φ p = q := by
  apply Classical.byContradiction
  intro hno
  have hnd : ((List.range n).map φ).Nodup := List.pairwise_map.2 (List.Pairwise.imp_of_mem (fun {a b} ha hb hab he => hab (inj a b (by simpa using ha) (by simpa using hb) he)) List.nodup_range)
  have hnd2 : (q :: (List.range n).map φ).Nodup := List.nodup_cons.2 ⟨fun h => by
    obtain ⟨p, hp, he⟩ := List.mem_map.1 h
    exact hno ⟨p, by simpa using hp, he⟩, hnd⟩
  have hsub : (q :: (List.range n).map φ) ⊆ List.range n := fun x hx => by
    rcases List.mem_cons.1 hx with rfl | h
    · simpa using hq
    · obtain ⟨p, hp, rfl⟩ := List.mem_map.1 h
      simpa using im p (by simpa using hp)
  have := List.Nodup.length_le_of_subset hnd2 hsub
  simp at this
  omega
theorem IsoS.tr {φ : Nat → Nat} (h : IsoS n xss yss φ) (hsys : okSys n xss = true) : Tr (fun x => 0 ≤ x ∧ x < (n : Int)) (fun x => ((φ x.toNat : Nat) : Int)) xss yss := by
  refine ⟨fun a b ha hb he => ?_, h.len, fun i g g' hg hg' x hx => ⟨sys_img hsys (List.mem_of_getElem? hg) hx.1 hx.2, ?_⟩⟩
  · have := h.inj a.toNat b.toNat (by omega) (by omega) (Int.ofNat_inj.1 he)
    omega
  · obtain ⟨k, rfl⟩ := Int.eq_ofNat_of_zero_le hx.1
    exact h.mv i g g' hg hg' k (by omega)
theorem iso_frm {φ : Nat → Nat} (h : IsoS n xss yss φ) (hs : okSys n xss = true) (hs' : okSys n yss = true) (hall : ∀ q : Nat, q < n → (orbL xss n q).length = n) (hp : p < n) : frmL xss n p = frmL yss n (φ p) := by
  have ho := (tr_orb (h.tr hs) (n := n) (x := (p : Int)) ⟨by omega, by omega⟩).2
  have hl := congrArg List.length ho
  rw [List.length_map, hall p hp, show (p : Int).toNat = p by simp] at hl
  rw [frm_eq_sec hs hp (hall p hp), frm_eq_sec hs' (h.im p hp) hl.symm]
  exact tr_sec (h.tr hs) hs hp ⟨by omega, by omega⟩ (by simp)
/-- Maniplexes that are the same up to the numbers of their flags have one least form. -/
theorem iso_least {φ : Nat → Nat} (h : IsoS n xss yss φ) (hs : okSys n xss = true) (hs' : okSys n yss = true) (hn : 0 < n) (hall : ∀ q : Nat, q < n → (orbL xss n q).length = n) : lstTo xss n (n - 1) = lstTo yss n (n - 1) := by
  refine lst_eq (fun p hp => ⟨φ p, by have := h.im p (by omega); omega, iso_frm h hs hs' hall (by omega)⟩) fun q hq => ?_
  obtain ⟨p, hp, rfl⟩ := inj_onto h.im h.inj (show q < n by omega)
  exact ⟨p, by omega, iso_frm h hs hs' hall hp⟩
end
end Go.Proofs.Ytmgoaabeopnopaa
