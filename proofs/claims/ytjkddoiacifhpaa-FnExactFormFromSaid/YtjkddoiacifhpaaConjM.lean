/- Conjugation keeps the lengths of the cycles: plain facts, no program. -/
import Derived.Test.YtjkddoiacifhpaaOrdM
namespace Go.Proofs.Ytjkddoiacifhpaa
open Go.RowKit

theorem perm_nodup : ∀ {l1 l2 : List Int}, l1.Nodup → l2.Nodup → (∀ a, a ∈ l1 ↔ a ∈ l2) → l1.Perm l2
  | [], l2, _, _, h => by
    have : l2 = [] := List.eq_nil_iff_forall_not_mem.2 fun a ha => by have := (h a).2 ha; simp at this
    rw [this]
  | a :: t, l2, h1, h2, h => by
    have ha : a ∈ l2 := (h a).1 (by simp)
    have hn := List.nodup_cons.1 h1
    have ih : t.Perm (l2.erase a) := perm_nodup hn.2 (h2.erase a) fun b => by
      rw [List.Nodup.mem_erase_iff h2]
      constructor
      · intro hb
        exact ⟨fun e => hn.1 (e ▸ hb), (h b).1 (List.mem_cons.2 (.inr hb))⟩
      · rintro ⟨hb, hm⟩
        exact (List.mem_cons.1 ((h b).2 hm)).resolve_left hb
    exact (List.Perm.cons a ih).trans (List.perm_cons_erase ha).symm
theorem passed_all {n : Nat} {l : List Int} (h : Passed n l) (hl : l.length = n) {p : Nat} (hp : p < n) : (p : Int) ∈ l := by
  by_cases hm : (p : Int) ∈ l
  · exact hm
  · have := passed_len (passed_snoc h hp hm)
    simp at this
    omega
/-- Cycles that make up a permutation. -/
structure Decomp (f : Int → Int) (n : Nat) (cs : List (List Int)) : Prop where
  cyc : ∀ c ∈ cs, ∀ (i : Nat) (x : Int), c[i]? = some x → c[(i + 1) % c.length]? = some (f x)
  ne : ∀ c ∈ cs, 1 ≤ c.length
  ps : Passed n cs.flatten
  len : cs.flatten.length = n
def itf (f : Int → Int) : Nat → Int → Int
  | 0, x => x
  | m + 1, x => itf f m (f x)
theorem itf_at {f : Int → Int} {c : List Int} (h : ∀ (i : Nat) (x : Int), c[i]? = some x → c[(i + 1) % c.length]? = some (f x)) : ∀ (m i : Nat) (x : Int), c[i]? = some x → c[(i + m) % c.length]? = some (itf f m x)
  | 0, i, x, hx => by
    have := (List.getElem?_eq_some_iff.1 hx).1
    rw [Nat.add_zero, Nat.mod_eq_of_lt this]
    exact hx
  | m + 1, i, x, hx => by
    have h1 := itf_at h m _ _ (h i x hx)
    rw [itf, ← h1]
    congr 1
    rw [Nat.mod_add_mod]
    congr 1
    omega
/-- The point comes back after L steps and not before. -/
def Per (f : Int → Int) (L : Nat) (x : Int) : Bool := decide (itf f L x = x ∧ ∀ m < L, 1 ≤ m → itf f m x ≠ x)
theorem per_iff {f : Int → Int} {c : List Int} {L i : Nat} {x : Int} (h : ∀ (i : Nat) (x : Int), c[i]? = some x → c[(i + 1) % c.length]? = some (f x)) (hnd : c.Nodup) (hL : 1 ≤ L) (hx : c[i]? = some x) : Per f L x = decide (c.length = L) := by
  have hi := (List.getElem?_eq_some_iff.1 hx).1
  have key : ∀ m, itf f m x = x ↔ m % c.length = 0 := fun m => by
    have h1 := itf_at h m i x hx
    constructor
    · intro he
      rw [he] at h1
      have hlt : (i + m) % c.length < c.length := Nat.mod_lt _ (by omega)
      have hii : (i + m) % c.length = i := by
        have e1 := (List.getElem?_eq_some_iff.1 hx).2
        have e2 := (List.getElem?_eq_some_iff.1 h1).2
        rcases Nat.lt_trichotomy ((i + m) % c.length) i with h2 | h2 | h2
        · exact absurd (e2.trans e1.symm) (List.pairwise_iff_getElem.1 hnd _ _ hlt hi h2)
        · exact h2
        · exact absurd (e1.trans e2.symm) (List.pairwise_iff_getElem.1 hnd _ _ hi hlt h2)
      rw [Nat.add_mod, Nat.mod_eq_of_lt hi] at hii
      have hml : m % c.length < c.length := Nat.mod_lt _ (by omega)
      by_cases hs : i + m % c.length < c.length
      · rw [Nat.mod_eq_of_lt hs] at hii; omega
      · rw [Nat.mod_eq_sub_mod (by omega), Nat.mod_eq_of_lt (by omega)] at hii; omega
    · intro hm
      rw [Nat.add_mod, hm, Nat.add_zero, Nat.mod_mod, Nat.mod_eq_of_lt hi, hx] at h1
      injection h1 with h1
      exact h1.symm
  unfold Per
  by_cases hl : c.length = L
  · rw [decide_eq_true hl]
    refine decide_eq_true ⟨(key L).2 (by rw [hl, Nat.mod_self]), fun m hm hm1 he => ?_⟩
    have h0 := (key m).1 he
    rw [hl, Nat.mod_eq_of_lt hm] at h0
    omega
  · rw [decide_eq_false hl]
    refine decide_eq_false ?_
    rintro ⟨h1, h2⟩
    have h0 := (key L).1 h1
    have hd := Nat.le_of_dvd (by omega) (Nat.dvd_of_mod_eq_zero h0)
    exact h2 c.length (by omega) (by omega) ((key _).2 (Nat.mod_self _))
theorem count_len {f : Int → Int} {L : Nat} (hL : 1 ≤ L) : ∀ (cs : List (List Int)), (∀ c ∈ cs, ∀ (i : Nat) (x : Int), c[i]? = some x → c[(i + 1) % c.length]? = some (f x)) → (∀ c ∈ cs, c.Nodup) →
    cs.flatten.countP (Per f L) = L * (cs.map fun c => (c.length : Int)).count (L : Int)
  | [], _, _ => by simp
  | c :: cs, h, hn => by
    have ih := count_len hL cs (fun c' h' => h c' (List.mem_cons.2 (.inr h'))) (fun c' h' => hn c' (List.mem_cons.2 (.inr h')))
    have hc : c.countP (Per f L) = if c.length = L then L else 0 := by
      have hall : ∀ x ∈ c, Per f L x = decide (c.length = L) := fun x hx => by
        obtain ⟨i, hi, rfl⟩ := List.mem_iff_getElem.1 hx
        exact per_iff (h c (by simp)) (hn c (by simp)) hL (List.getElem?_eq_getElem hi)
      split
      · rename_i e
        rw [List.countP_eq_length.2 fun x hx => by rw [hall x hx]; exact decide_eq_true e, e]
      · rename_i e
        rw [List.countP_eq_zero]
        intro x hx
        rw [hall x hx]
        simp [e]
    rw [List.flatten_cons, List.countP_append, ih, hc, List.map_cons, List.count_cons, Nat.mul_add]
    have e : ((c.length : Int) == (L : Int)) = decide (c.length = L) := by
      by_cases h2 : c.length = L
      · rw [h2]; simp
      · rw [decide_eq_false h2, beq_eq_false_iff_ne]; omega
    rw [e]
    by_cases h2 : c.length = L
    · simp [h2]; omega
    · simp [h2]
/-- Two ways to make up one permutation have the same lengths. -/
theorem decomp_lens {f : Int → Int} {n : Nat} {cs ds : List (List Int)} (h1 : Decomp f n cs) (h2 : Decomp f n ds) : (cs.map fun c => (c.length : Int)).Perm (ds.map fun c => (c.length : Int)) := by
  have hp : cs.flatten.Perm ds.flatten := perm_nodup h1.ps.2 h2.ps.2 fun a => by
    constructor
    · intro ha
      have := h1.ps.1 a ha
      obtain ⟨p, rfl⟩ := Int.eq_ofNat_of_zero_le this.1
      exact passed_all h2.ps h2.len (by omega)
    · intro ha
      have := h2.ps.1 a ha
      obtain ⟨p, rfl⟩ := Int.eq_ofNat_of_zero_le this.1
      exact passed_all h1.ps h1.len (by omega)
  refine List.perm_iff_count.2 fun a => ?_
  have nd1 : ∀ c ∈ cs, c.Nodup := (List.pairwise_flatten.1 h1.ps.2).1
  have nd2 : ∀ c ∈ ds, c.Nodup := (List.pairwise_flatten.1 h2.ps.2).1
  by_cases ha : 1 ≤ a
  · obtain ⟨L, rfl⟩ := Int.eq_ofNat_of_zero_le (show 0 ≤ a by omega)
    have hL : 1 ≤ L := by omega
    have e1 := count_len hL cs h1.cyc nd1
    have e2 := count_len hL ds h2.cyc nd2
    rw [hp.countP_eq, e2] at e1
    exact (Nat.eq_of_mul_eq_mul_left (by omega) e1).symm
  · have hz : ∀ (es : List (List Int)), (∀ c ∈ es, 1 ≤ c.length) → (es.map fun c => (c.length : Int)).count a = 0 := fun es he => by
      refine List.count_eq_zero.2 fun hm => ?_
      obtain ⟨c, hc, rfl⟩ := List.mem_map.1 hm
      have := he c hc
      omega
    rw [hz cs h1.ne, hz ds h2.ne]
end Go.Proofs.Ytjkddoiacifhpaa
