import Derived.Test.YtmgoaabeopnopaaL10
import Derived.Shelf.SlicesG.CompactI
/- The sizes of orbits, each once, in ascending order: plain facts. -/
namespace Go.Proofs.Ytmgoaabeopnopaa
open Go.RowKit

section
variable {xss : List (List Int)} {n : Nat}
/-- Points of one orbit have orbits of one size. -/
theorem orb_mem (hsys : okSys n xss = true) {p q : Nat} (hp : p < n) (hq : q < n) (hm : (q : Int) ∈ orbL xss n p) : (orbL xss n q).length = (orbL xss n p).length := by
  have op := orb_aside hsys (passed_nil _) (closed_nil xss) hp (by simp)
  have oq := orb_aside hsys (passed_nil _) (closed_nil xss) hq (by simp)
  have hpp : Passed n (orbL xss n p) := by simpa using op.2.1
  have hpq : Passed n (orbL xss n q) := by simpa using oq.2.1
  have hcp : Closed xss (orbL xss n p) := by simpa using op.2.2.2
  have hcq : Closed xss (orbL xss n q) := by simpa using oq.2.2.2
  have h1 : ∀ z ∈ orbL xss n q, z ∈ orbL xss n p := orb_sub hcp hm
  have hpm : (p : Int) ∈ orbL xss n q := by
    apply Classical.byContradiction
    intro hn
    have o2 := (orb_aside hsys hpq hcq hp hn).2.1
    exact (List.nodup_append.1 o2.2).2.2 _ oq.2.2.1 _ hm rfl
  have h2 : ∀ z ∈ orbL xss n p, z ∈ orbL xss n q := orb_sub hcq hpm
  have a := List.Nodup.length_le_of_subset hpq.2 h1
  have b := List.Nodup.length_le_of_subset hpp.2 h2
  omega
end
/-- The values of a function, each once, in the order in which they first occur. -/
def ddTo (g : Nat → Int) : Nat → List Int
  | 0 => []
  | k + 1 => if g k ∈ ddTo g k then ddTo g k else ddTo g k ++ [g k]
theorem ddTo_mem {g : Nat → Int} {x : Int} : ∀ k, x ∈ ddTo g k ↔ ∃ f, f < k ∧ g f = x
  | 0 => by simp [ddTo]
  | k + 1 => by
    have ih := ddTo_mem (g := g) (x := x) k
    unfold ddTo
    split
    · rename_i h
      rw [ih]
      constructor
      · rintro ⟨f, h1, h2⟩; exact ⟨f, by omega, h2⟩
      · rintro ⟨f, h1, h2⟩
        rcases Nat.lt_succ_iff_lt_or_eq.1 h1 with h3 | rfl
        · exact ⟨f, h3, h2⟩
        · exact ih.1 (h2 ▸ h)
    · rw [List.mem_append, ih]
      constructor
      · rintro (⟨f, h1, h2⟩ | h1)
        · exact ⟨f, by omega, h2⟩
        · simp at h1; exact ⟨k, by omega, h1.symm⟩
      · rintro ⟨f, h1, h2⟩
        rcases Nat.lt_succ_iff_lt_or_eq.1 h1 with h3 | rfl
        · exact .inl ⟨f, h3, h2⟩
        · exact .inr (by simp [h2])
theorem ddTo_nodup (g : Nat → Int) : ∀ k, (ddTo g k).Nodup
  | 0 => by simp [ddTo]
  | k + 1 => by
    have ih := ddTo_nodup g k
    unfold ddTo
    split
    · exact ih
    · rename_i h
      rw [List.nodup_append]
      refine ⟨ih, by simp, fun a ha b hb => ?_⟩
      simp at hb
      subst hb
      rintro rfl
      exact h ha
theorem ddTo_len (g : Nat → Int) : ∀ k, (ddTo g k).length ≤ k
  | 0 => by simp [ddTo]
  | k + 1 => by
    have ih := ddTo_len g k
    unfold ddTo
    split
    · omega
    · simp; omega
/-- Lists in strictly ascending order with the same numbers are equal. -/
theorem strict_eq : ∀ {a b : List Int}, a.Pairwise (· < ·) → b.Pairwise (· < ·) → (∀ x, x ∈ a ↔ x ∈ b) → a = b
  | [], [], _, _, _ => rfl
  | [], y :: b, _, _, h => by have := (h y).2 (by simp); simp at this
  | x :: a, [], _, _, h => by have := (h x).1 (by simp); simp at this
  | x :: a, y :: b, ha, hb, h => by
    have ha1 := List.pairwise_cons.1 ha
    have hb1 := List.pairwise_cons.1 hb
    have hxy : x = y := by
      have h1 := (h x).1 (by simp)
      have h2 := (h y).2 (by simp)
      rcases List.mem_cons.1 h1 with h3 | h3
      · exact h3
      · rcases List.mem_cons.1 h2 with h4 | h4
        · exact h4.symm
        · have := ha1.1 y h4
          have := hb1.1 x h3
          omega
    subst hxy
    congr 1
    refine strict_eq ha1.2 hb1.2 fun z => ?_
    have hz := h z
    constructor
    · intro hm
      have h1 := ha1.1 z hm
      rcases List.mem_cons.1 (hz.1 (List.mem_cons.2 (.inr hm))) with h2 | h2
      · omega
      · exact h2
    · intro hm
      have h1 := hb1.1 z hm
      rcases List.mem_cons.1 (hz.2 (List.mem_cons.2 (.inr hm))) with h2 | h2
      · omega
      · exact h2
theorem sort_strict {l : List Int} (h : l.Nodup) : (sortL l).Pairwise (· < ·) := by
  have h1 := sortL_sorted l
  have h2 : (sortL l).Nodup := (sortL_perm l).nodup_iff.2 h
  refine List.Pairwise.imp₂ (fun a b h3 h4 => ?_) h1 h2
  omega
/-- Of equal neighbours, one. -/
def cpL : List Int → List Int
  | [] => []
  | [x] => [x]
  | x :: y :: r => if x = y then cpL (y :: r) else x :: cpL (y :: r)
theorem cpL_mem {z : Int} : ∀ l : List Int, z ∈ cpL l ↔ z ∈ l
  | [] => by simp [cpL]
  | [x] => by simp [cpL]
  | x :: y :: r => by
    have ih := cpL_mem (z := z) (y :: r)
    unfold cpL
    split
    · rename_i h
      subst h
      rw [ih]; simp
    · rw [List.mem_cons, ih, List.mem_cons (a := z) (b := x)]
theorem cpL_strict : ∀ l : List Int, l.Pairwise (· ≤ ·) → (cpL l).Pairwise (· < ·)
  | [], _ => by simp [cpL]
  | [x], _ => by simp [cpL]
  | x :: y :: r, h => by
    have h1 := List.pairwise_cons.1 h
    have ih := cpL_strict (y :: r) h1.2
    unfold cpL
    split
    · exact ih
    · rename_i hne
      refine List.pairwise_cons.2 ⟨fun z hz => ?_, ih⟩
      have hz := (cpL_mem (y :: r)).1 hz
      have hxz := h1.1 z hz
      have hxy := h1.1 y (by simp)
      have hyz : y ≤ z := by
        rcases List.mem_cons.1 hz with rfl | h2
        · exact Int.le_refl _
        · exact (List.pairwise_cons.1 h1.2).1 z h2
      omega
theorem cp_sort {l l' : List Int} (hn : l'.Nodup) (h : ∀ x, x ∈ l ↔ x ∈ l') : cpL (sortL l) = sortL l' :=
  strict_eq (cpL_strict _ (sortL_sorted l)) (sort_strict hn) fun x => by
    rw [cpL_mem, (sortL_perm l).mem_iff, (sortL_perm l').mem_iff, h]

/-- How often each of the first m labels occurs. -/
def cntsL (l : List Int) (m : Nat) : List Int := (List.range m).map fun (j : Nat) => ((l.count (j : Int) : Nat) : Int)
theorem cntsL_len (l : List Int) (m : Nat) : (cntsL l m).length = m := by simp [cntsL]
theorem cntsL_at {l : List Int} {m j : Nat} (h : j < m) : (cntsL l m)[j]? = some ((l.count (j : Int) : Nat) : Int) := by simp [cntsL, h]
theorem cntsL_nil (m : Nat) : cntsL [] m = List.replicate m 0 := by
  apply List.ext_getElem (by simp [cntsL])
  intro i h1 h2
  simp [cntsL]
theorem cntsL_succ {l : List Int} {m k j : Nat} (h : l[k]? = some (j : Int)) (_hj : j < m) : (cntsL (l.take k) m).set j ((((l.take k).count (j : Int) : Nat) : Int) + 1) = cntsL (l.take (k + 1)) m := by
  rw [take_succ_of h]
  apply List.ext_getElem (by simp [cntsL])
  intro i h1 h2
  rw [List.getElem_set]
  by_cases e : j = i
  · subst e
    simp [cntsL]
  · rw [if_neg e]
    have : ¬ ((j : Int) = (i : Int)) := by omega
    simp [cntsL, List.count_append, this]
theorem grtL_gt {l : List Int} : ∀ k, ∀ x ∈ l.take k, x < grtL (l.take k)
  | 0 => by simp
  | k + 1 => by
    intro x hx
    by_cases hk : k < l.length
    · have hg := List.getElem?_eq_getElem hk
      rw [take_succ_of hg] at hx
      rw [grtL_succ hg]
      rcases List.mem_append.1 hx with h1 | h1
      · have := grtL_gt k x h1
        split <;> omega
      · simp at h1
        subst h1
        split <;> omega
    · rw [List.take_of_length_le (by omega)] at hx ⊢
      have h := grtL_gt (l := l) k x
      rw [List.take_of_length_le (by omega)] at h
      exact h hx
section
variable {xss : List (List Int)} {n : Nat}
theorem orbsTo_of {o : List Int} : ∀ k, o ∈ orbsTo xss n k → ∃ p : Nat, p < k ∧ o = orbL xss n p
  | 0, h => by simp [orbsTo] at h
  | k + 1, h => by
    unfold orbsTo at h
    split at h
    · obtain ⟨p, h1, h2⟩ := orbsTo_of k h
      exact ⟨p, by omega, h2⟩
    · rcases List.mem_append.1 h with h1 | h1
      · obtain ⟨p, h2, h3⟩ := orbsTo_of k h1
        exact ⟨p, by omega, h3⟩
      · simp at h1
        exact ⟨k, by omega, h1⟩
/-- The label of a point tells its orbit. -/
theorem lab_iff (hsys : okSys n xss = true) {p j : Nat} (hp : p < n) : (labL xss n)[p]? = some (j : Int) ↔ ∃ o, (orbsTo xss n n)[j]? = some o ∧ (p : Int) ∈ o := by
  have hf := orbsTo_facts hsys n (Nat.le_refl _)
  obtain ⟨o, ho, hpo⟩ := List.mem_flatten.1 (hf.2.2.2 p hp)
  have hlt : (orbsTo xss n n).findIdx (fun o => decide ((p : Int) ∈ o)) < (orbsTo xss n n).length := List.findIdx_lt_length_of_exists ⟨o, ho, by simpa using hpo⟩
  have hin : (p : Int) ∈ (orbsTo xss n n)[(orbsTo xss n n).findIdx (fun o => decide ((p : Int) ∈ o))] := by simpa using List.findIdx_getElem (w := hlt)
  have e : (labL xss n)[p]? = some (((orbsTo xss n n).findIdx (fun o => decide ((p : Int) ∈ o)) : Nat) : Int) := by simp [labL, hp]
  rw [e]
  constructor
  · intro h
    injection h with h
    have hj : (orbsTo xss n n).findIdx (fun o => decide ((p : Int) ∈ o)) = j := by omega
    subst hj
    exact ⟨_, List.getElem?_eq_getElem hlt, hin⟩
  · rintro ⟨o2, ho2, hp2⟩
    obtain ⟨h1, h2⟩ := List.getElem?_eq_some_iff.1 ho2
    have hd := List.pairwise_flatten.1 hf.1.2
    apply Classical.byContradiction
    intro hne
    have hne' : (orbsTo xss n n).findIdx (fun o => decide ((p : Int) ∈ o)) ≠ j := fun h => hne (by rw [h])
    rcases Nat.lt_or_gt_of_ne hne' with h3 | h3
    · have := List.pairwise_iff_getElem.1 hd.2 _ _ hlt h1 h3
      exact this _ hin _ (h2 ▸ hp2) rfl
    · have := List.pairwise_iff_getElem.1 hd.2 _ _ h1 hlt h3
      exact this _ (h2 ▸ hp2) _ hin rfl
theorem lab_count (hsys : okSys n xss = true) {j : Nat} {o : List Int} (ho : (orbsTo xss n n)[j]? = some o) : (labL xss n).count (j : Int) = o.length := by
  obtain ⟨p0, hp0, rfl⟩ := orbsTo_of n (List.mem_of_getElem? ho)
  have hps := orb_passed hsys hp0
  have e : (labL xss n).count (j : Int) = (((List.range n).filter fun p => decide ((labL xss n)[p]? = some (j : Int))).map fun (p : Nat) => (p : Int)).length := by
    have e1 : labL xss n = (List.range n).map fun p => ((labL xss n)[p]?).getD 0 := by
      apply List.ext_getElem (by simp [labL_length])
      intro i h1 h2
      simp [h1]
    rw [List.length_map, ← List.countP_eq_length_filter]
    conv => lhs; rw [e1]
    rw [List.count, List.countP_map]
    refine List.countP_congr fun p hp => ?_
    have hp : p < (labL xss n).length := by rw [labL_length]; simpa using hp
    simp [hp]
  rw [e]
  refine (perm_nodup ?_ hps.2 fun a => ?_).length_eq
  · refine List.pairwise_map.2 (List.Pairwise.imp ?_ (List.nodup_range (n := n) |>.filter _))
    intro a b hab he
    exact hab (by omega)
  · constructor
    · intro h
      obtain ⟨p, hp, rfl⟩ := List.mem_map.1 h
      obtain ⟨h1, h2⟩ := List.mem_filter.1 hp
      obtain ⟨o2, h3, h4⟩ := (lab_iff hsys (by simpa using h1)).1 (of_decide_eq_true h2)
      rw [ho] at h3
      injection h3 with h3
      rw [h3]; exact h4
    · intro h
      have hr := hps.1 a h
      obtain ⟨p, rfl⟩ := Int.eq_ofNat_of_zero_le hr.1
      refine List.mem_map.2 ⟨p, List.mem_filter.2 ⟨by simp; omega, decide_eq_true ((lab_iff hsys (by omega)).2 ⟨_, ho, h⟩)⟩, rfl⟩
theorem lab_cnt (hsys : okSys n xss = true) (hn : 0 < n) : grtL (labL xss n) = ((orbsTo xss n n).length : Int) := by
  have hf := orbsTo_facts hsys n (Nat.le_refl _)
  have hall : ∀ x ∈ labL xss n, 0 ≤ x ∧ x < ((orbsTo xss n n).length : Int) := by
    intro x hx
    obtain ⟨p, hp, rfl⟩ := List.mem_iff_getElem.1 hx
    have hx2 := labL_in hsys _ (List.getElem_mem hp)
    obtain ⟨j, hj⟩ := Int.eq_ofNat_of_zero_le hx2.1
    rw [labL_length] at hp
    obtain ⟨o, ho, _⟩ := (lab_iff hsys hp (j := j)).1 (by rw [List.getElem?_eq_getElem (by rw [labL_length]; exact hp), hj])
    have := (List.getElem?_eq_some_iff.1 ho).1
    rw [hj]
    omega
  have h1 := grtL_bd hall n
  rw [List.take_of_length_le (by rw [labL_length]; omega)] at h1
  have hpos : 0 < (orbsTo xss n n).length := by
    obtain ⟨o, ho, _⟩ := List.mem_flatten.1 (hf.2.2.2 0 hn)
    exact List.length_pos_of_mem ho
  have hg := List.getElem?_eq_getElem (show (orbsTo xss n n).length - 1 < (orbsTo xss n n).length by omega)
  obtain ⟨p0, hp0, he⟩ := orbsTo_of n (List.mem_of_getElem? hg)
  have hin := (orb_aside hsys (passed_nil _) (closed_nil xss) hp0 (by simp)).2.2.1
  have hl := (lab_iff hsys hp0).2 ⟨_, hg, by rw [he]; exact hin⟩
  have h2 := grtL_gt (l := labL xss n) n _ (by rw [List.take_of_length_le (by rw [labL_length]; omega)]; exact List.mem_of_getElem? hl)
  rw [List.take_of_length_le (by rw [labL_length]; omega)] at h2
  omega
/-- The numbers of the points of the orbits are the sizes of the orbits of all points. -/
theorem cnts_orbs (hsys : okSys n xss = true) {m : Nat} (hm : (orbsTo xss n n).length = m) (x : Int) : x ∈ cntsL (labL xss n) m ↔ ∃ f, f < n ∧ ((orbL xss n f).length : Int) = x := by
  subst hm
  constructor
  · intro h
    obtain ⟨j, hj, rfl⟩ := List.mem_map.1 h
    have hj : j < (orbsTo xss n n).length := by simpa using hj
    have hg := List.getElem?_eq_getElem hj
    obtain ⟨p0, hp0, he⟩ := orbsTo_of n (List.mem_of_getElem? hg)
    exact ⟨p0, hp0, by rw [lab_count hsys hg, he]⟩
  · rintro ⟨f, hf, rfl⟩
    have hx := labL_in hsys _ (List.getElem_mem (show f < (labL xss n).length by rw [labL_length]; exact hf))
    obtain ⟨j, hj⟩ := Int.eq_ofNat_of_zero_le hx.1
    obtain ⟨o, ho, hfo⟩ := (lab_iff hsys hf (j := j)).1 (by rw [List.getElem?_eq_getElem (by rw [labL_length]; exact hf), hj])
    obtain ⟨p0, hp0, rfl⟩ := orbsTo_of n (List.mem_of_getElem? ho)
    refine List.mem_map.2 ⟨j, by simpa using (List.getElem?_eq_some_iff.1 ho).1, ?_⟩
    show (((labL xss n).count (j : Int) : Nat) : Int) = _
    rw [lab_count hsys ho, orb_mem hsys hp0 hf hfo]
/-- The sizes of the polygons: half of the sizes of the orbits, each once, in ascending order. -/
def polL (xss : List (List Int)) (n : Nat) : List Int := sortL (ddTo (fun f => ((orbL xss n f).length : Int) / 2) n)
theorem polL_cp (hsys : okSys n xss = true) {m : Nat} (hm : (orbsTo xss n n).length = m) : cpL (sortL ((cntsL (labL xss n) m).map fun x => x / 2)) = polL xss n :=
  cp_sort (ddTo_nodup _ _) fun x => by
    rw [ddTo_mem, List.mem_map]
    constructor
    · rintro ⟨y, hy, rfl⟩
      obtain ⟨f, hf, rfl⟩ := (cnts_orbs hsys hm y).1 hy
      exact ⟨f, hf, rfl⟩
    · rintro ⟨f, hf, rfl⟩
      exact ⟨_, (cnts_orbs hsys hm _).2 ⟨f, hf, rfl⟩, rfl⟩
end
end Go.Proofs.Ytmgoaabeopnopaa
/- slices.Compact at []int64. -/
namespace Go.Proofs.Ytmgoaabeopnopaa
open Go.RowKit Go.Sort

def cpG : Int → List Int → List Int
  | _, [] => []
  | p, y :: r => if p = y then cpG y r else y :: cpG y r
theorem cpL_cons : ∀ (x : Int) (l : List Int), cpL (x :: l) = x :: cpG x l
  | x, [] => by simp [cpL, cpG]
  | x, y :: r => by
    have ih := cpL_cons y r
    unfold cpL cpG
    by_cases h : x = y
    · rw [if_pos h, if_pos h, ih, h]
    · rw [if_neg h, if_neg h, ih]
theorem cpG_range : ∀ (p : Int) (l : List Int), ((List.range l.length).filter fun j => decide ((p :: l)[j + 1]! ≠ (p :: l)[j]!)).map (fun j => (p :: l)[j + 1]!) = cpG p l
  | p, [] => by simp [cpG]
  | p, y :: r => by
    have ih := cpG_range y r
    have e : ((List.range r.length).map Nat.succ).filter (fun j => decide ((p :: y :: r)[j + 1]! ≠ (p :: y :: r)[j]!)) = ((List.range r.length).filter fun j => decide ((y :: r)[j + 1]! ≠ (y :: r)[j]!)).map Nat.succ := by
      rw [List.filter_map]
      congr 1
    have e2 : (((List.range r.length).filter fun j => decide ((y :: r)[j + 1]! ≠ (y :: r)[j]!)).map Nat.succ).map (fun j => (p :: y :: r)[j + 1]!) = cpG y r := by
      rw [List.map_map, ← ih]
      rfl
    rw [List.length_cons, List.range_succ_eq_map, List.filter_cons]
    unfold cpG
    by_cases h : p = y
    · rw [if_pos h, if_neg (by simp [h]), e, e2]
    · rw [if_neg h, if_pos (by simpa using fun h2 => h h2.symm), List.map_cons, e, e2]
      simp
theorem compact_cpL : ∀ l : List Int, Lib.compact l = cpL l
  | [] => by simp [Lib.compact, Lib.compactUpTo, cpL]
  | p :: l => by
    rw [cpL_cons, ← cpG_range p l]
    unfold Lib.compact Lib.compactUpTo
    rw [List.length_cons, List.range_succ_eq_map, List.filter_cons, if_pos (by simp [Lib.keeps]), List.map_cons, List.filter_map, List.map_map]
    congr 1
    · congr 1
      · funext j
        simp
      · congr 1
        funext j
        simp [Lib.keeps]
theorem cpL_length_le (l : List Int) : (cpL l).length ≤ l.length := by
  rw [← compact_cpL]
  unfold Lib.compact Lib.compactUpTo
  rw [List.length_map]
  exact Nat.le_trans (List.length_filter_le _ _) (by simp)

end Go.Proofs.Ytmgoaabeopnopaa
/- impl.Maniplex.polygonSizes. -/
namespace Go.Proofs.Ytmgoaabeopnopaa
open Go.RowKit

theorem okSys_two {n : Int} {xss : List (List Int)} (h : okSys n xss = true) (i : Nat) : okSys n ((xss.drop i).take 2) = true := by
  have h1 := sys_parts h
  refine decide_eq_true ⟨h1.1, h1.2.1, ?_, fun xs hx => h1.2.2.2 xs (List.mem_of_mem_drop (List.mem_of_mem_take hx))⟩
  have : ((xss.drop i).take 2).length ≤ xss.length := by simp; omega
  omega
/-- The list with its first k elements halved. -/
def hlvL (D : List Int) (k : Nat) : List Int := (D.take k).map (fun x => x / 2) ++ D.drop k
theorem hlvL_at {D : List Int} {k : Nat} {x : Int} (h : D[k]? = some x) : (hlvL D k)[k]? = some x := by
  have hk := (List.getElem?_eq_some_iff.1 h).1
  unfold hlvL
  rw [List.getElem?_append_right (by simp; omega), List.getElem?_drop]
  have : k + (k - (List.map (fun x => x / 2) (D.take k)).length) = k := by simp; omega
  rw [this, h]
theorem hlvL_succ {D : List Int} {k : Nat} {x : Int} (h : D[k]? = some x) : (hlvL D k).set k (x / 2) = hlvL D (k + 1) := by
  have hk := (List.getElem?_eq_some_iff.1 h).1
  have hx := (List.getElem?_eq_some_iff.1 h).2
  unfold hlvL
  rw [List.set_append_right _ _ (by simp; omega), take_succ_of h, List.drop_eq_getElem_cons hk, hx]
  have : k - (List.map (fun x => x / 2) (D.take k)).length = 0 := by simp; omega
  rw [this]
  simp
theorem hlvL_all {D : List Int} {k : Nat} (h : D.length ≤ k) : hlvL D k = D.map fun x => x / 2 := by
  unfold hlvL
  rw [List.take_of_length_le h, List.drop_of_length_le h, List.append_nil]
theorem cntsL_bd {l : List Int} {m : Nat} : ∀ x ∈ cntsL l m, 0 ≤ x ∧ x ≤ (l.length : Int) := by
  intro x hx
  obtain ⟨j, hj, rfl⟩ := List.mem_map.1 hx
  have := List.count_le_length (a := (j : Int)) (l := l)
  omega

theorem ilab2_any {b o c N n n2 c2 c0 m : Nat} {A0 A2 : Option Addr} {yss : List (List Int)} (w : World) (h0 : w.cell? ⟨b, o, none⟩ = some (.slice A0 n c0)) (hpos : 0 < N) (hy : yss.length = n2) (ha : RdSS w A2 yss) (hsys : okSys n yss = true) (hn : 0 < n) (hm : (orbsTo yss n n).length = m) :
    Calls Try.prog 147 #[.agg #[.slice (some ⟨b, o, none⟩) N c], .slice A2 n2 c2] w fun e w' => ∃ A c, e = .returned (.tuple #[.slice A n c, .int .i64 (m : Int)]) ∧ w'.ownsRow w.heap.size 2 1 (.slice A n c) n (ints (labL yss n)) ∧ Below w.heap.size w w' := by
  refine (ilabels_any w h0 hpos hy ha hsys hn).mono ?_
  rintro e w' ⟨A, c, rfl, own, bel⟩
  rw [labL_length] at own ⊢
  exact ⟨A, c, by rw [lab_cnt hsys hn, hm], own, bel⟩

theorem lab_at {yss : List (List Int)} {n m k : Nat} (hsys : okSys n yss = true) (hn : 0 < n) (hm : (orbsTo yss n n).length = m) (hk : k < n) : ∃ j : Nat, (labL yss n)[k]? = some (j : Int) ∧ j < m := by
  have hg := List.getElem?_eq_getElem (show k < (labL yss n).length by rw [labL_length]; exact hk)
  have hx := labL_in hsys _ (List.mem_of_getElem? hg)
  obtain ⟨j, hj⟩ := Int.eq_ofNat_of_zero_le hx.1
  have h2 := grtL_gt (l := labL yss n) n _ (by rw [List.take_of_length_le (by rw [labL_length]; omega)]; exact List.mem_of_getElem? hg)
  rw [List.take_of_length_le (by rw [labL_length]; omega), lab_cnt hsys hn, hm, hj] at h2
  exact ⟨j, by rw [hg, hj], by omega⟩

end Go.Proofs.Ytmgoaabeopnopaa
/- impl.TypeOf. -/
namespace Go.Proofs.Ytmgoaabeopnopaa
open Go.RowKit

def RetSC (w : World) (L : List (List Int)) (C : Int) (e : Ending) (w' : World) : Prop :=
  ∃ A c, e = .returned (.tuple #[.slice A L.length c, .int .i64 C]) ∧ OwnSS w' w.heap.size w'.heap.size 36 A L.length c L ∧ Below w.heap.size w w'
noncomputable def tyL (xss : List (List Int)) (n M : Nat) : List (List Int) := (List.range M).map fun i => polL ((xss.drop i).take 2) n
theorem tyL_len (xss : List (List Int)) (n M : Nat) : (tyL xss n M).length = M := by simp [tyL]
noncomputable def tyR (xss : List (List Int)) : List (List Int) := if okMan xss then tyL xss (flN xss) (xss.length - 1) else []

end Go.Proofs.Ytmgoaabeopnopaa
/- spec.l02Type, spec.TypeOf. -/
namespace Go.Proofs.Ytmgoaabeopnopaa
open Go.RowKit

theorem ownSS_row0 {w : World} {lo e c : Nat} {A : Option Addr} (h : w.ownsRow lo e 1 (.slice A 0 c) 0 []) : OwnSS w lo w.heap.size e A 0 c [] :=
  ⟨[], h, own_in h, rfl, fun j xs h => by simp at h, fun i j u v _ h => by simp at h⟩
theorem tyL_succ (xss : List (List Int)) (n k : Nat) : tyL xss n (k + 1) = tyL xss n k ++ [polL ((xss.drop k).take 2) n] := by simp [tyL, List.range_succ]
theorem orbL_le {n p : Nat} {yss : List (List Int)} (hsys : okSys n yss = true) (hp : p < n) : (orbL yss n p).length ≤ n := passed_len (orb_passed hsys hp)
def halfO (yss : List (List Int)) (n : Nat) : Nat → Int := fun f => ((orbL yss n f).length : Int) / 2
theorem polL_dd (yss : List (List Int)) (n : Nat) : polL yss n = sortL (ddTo (halfO yss n) n) := rfl

def RetSN (w : World) (L : List (List Int)) (M : Nat) (e : Ending) (w' : World) : Prop :=
  ∃ A c, e = .returned (.slice A M c) ∧ OwnSS w' w.heap.size w'.heap.size 36 A M c L ∧ Below w.heap.size w w'
theorem polL_len (yss : List (List Int)) (n : Nat) : (polL yss n).length ≤ n := by rw [polL_dd, sortL_length]; exact ddTo_len _ _
theorem tyR_le (xss : List (List Int)) : (tyR xss).length ≤ 1048576 ∧ ∀ xs ∈ tyR xss, (xs.length : Int) ≤ 1048576 := by
  unfold tyR
  split
  · rename_i h
    have hm := okMan_iff.1 h
    have h5 := hm.r5
    have h4 := hm.f4
    refine ⟨by rw [tyL_len]; omega, fun xs hx => ?_⟩
    obtain ⟨i, _, rfl⟩ := List.mem_map.1 hx
    have := polL_len ((xss.drop i).take 2) (flN xss)
    omega
  · simp
end Go.Proofs.Ytmgoaabeopnopaa
