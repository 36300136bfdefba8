/- The flags of a face: how many there are, against those of the face and of its coface as maniplexes. Plain facts. -/
import Derived.Test.YtmfddenjemoedaaTrs
import Derived.Test.YtmfddenjemoedaaFcn
namespace Go.Proofs.Ytmfddenjemoedaa
open Go.RowKit

section
variable {lo hi xss us : List (List Int)} {n f i a : Nat} {h : List Int}
/-- A move that commutes with all of some moves leads their orbits to orbits. -/
theorem comm_orb (hsys : okSys n lo = true) (hh : ∀ k : Nat, k < n → 0 ≤ fz h k ∧ fz h k < (n : Int)) (hc : ∀ g ∈ lo, ∀ k : Nat, k < n → fz h (fz g k) = fz g (fz h k)) {z : Nat} (hz : z < n) :
    ∀ w ∈ orbL lo n z, fz h w ∈ orbL lo n (fz h z) := by
  obtain ⟨hpa, hm, hcl⟩ := orb_facts hsys hz
  obtain ⟨y, hy⟩ := Int.eq_ofNat_of_zero_le (hh z hz).1
  have hyn : y < n := by have := (hh z hz).2; omega
  rw [hy]
  obtain ⟨ypa, ym, ycl⟩ := orb_facts hsys hyn
  have hR : Closed lo ((unitL n).filter fun w => decide (fz h w ∈ orbL lo n y)) := by
    intro g hg w hw
    obtain ⟨h1, h2⟩ := List.mem_filter.1 hw
    obtain ⟨k, hk, rfl⟩ : ∃ k : Nat, k < n ∧ (k : Int) = w := by simpa [unitL] using h1
    have hi := sys_img hsys hg (x := (k : Int)) (by omega) (by omega)
    refine List.mem_filter.2 ⟨?_, ?_⟩
    · refine List.mem_map.2 ⟨(fz g k).toNat, by simp; omega, by omega⟩
    · rw [hc g hg k hk]
      exact decide_eq_true (ycl g hg _ (of_decide_eq_true h2))
  intro w hw
  have hin := orb_sub hR (q := z) (List.mem_filter.2 ⟨List.mem_map.2 ⟨z, by simpa using hz, rfl⟩, decide_eq_true (by rw [hy]; exact ym)⟩) w hw
  exact of_decide_eq_true (List.mem_filter.1 hin).2
theorem comm_len_le (hsys : okSys n lo = true) (hl : h.length = n) (hp : okP h = true) (hc : ∀ g ∈ lo, ∀ k : Nat, k < n → fz h (fz g k) = fz g (fz h k)) {z y : Nat} (hz : z < n) (hy : fz h z = (y : Int)) : (orbL lo n z).length ≤ (orbL lo n y).length := by
  obtain ⟨hpa, hm, hcl⟩ := orb_facts hsys hz
  have hco := comm_orb hsys (fun k hk => fz_in hl hp (by omega) (by omega)) hc hz
  rw [hy] at hco
  have h1 : ((orbL lo n z).map (fz h)).length ≤ (orbL lo n y).length := by
    refine List.Nodup.length_le_of_subset (List.pairwise_map.2 (List.Pairwise.imp_of_mem ?_ hpa.2)) fun w hw => ?_
    · intro a b ha hb hab he
      exact hab (fz_inj hl hp (hpa.1 a ha).1 (hpa.1 a ha).2 (hpa.1 b hb).1 (hpa.1 b hb).2 he)
    · obtain ⟨v, hv, rfl⟩ := List.mem_map.1 hw
      exact hco v hv
  simpa using h1
/-- Low and high moves: each of the ones commutes with each of the others. -/
structure Comm (n : Nat) (lo hi : List (List Int)) : Prop where
  slo : okSys n lo = true
  shi : okSys n hi = true
  fhi : ∀ h ∈ hi, freeP h = true
  flo : ∀ h ∈ lo, freeP h = true
  cm : ∀ g ∈ lo, ∀ h ∈ hi, ∀ k : Nat, k < n → fz h (fz g k) = fz g (fz h k)
theorem Comm.symm (c : Comm n lo hi) : Comm n hi lo := ⟨c.shi, c.slo, c.flo, c.fhi, fun g hg h hh k hk => (c.cm h hh g hg k hk).symm⟩
theorem Comm.len (c : Comm n lo hi) (hh : h ∈ hi) {z y : Nat} (hz : z < n) (hy : fz h z = (y : Int)) : (orbL lo n y).length = (orbL lo n z).length := by
  have hr := (sys_parts c.shi).2.2.2 h hh
  have hl : h.length = n := by omega
  have hi := fz_in hl hr.2 (x := (z : Int)) (by omega) (by omega)
  have hb := free_inv hl hr.2 (c.fhi h hh) hz
  rw [hy] at hb hi
  have h1 := comm_len_le c.slo hl hr.2 (fun g hg => c.cm g hg h hh) hz hy
  have h2 := comm_len_le c.slo hl hr.2 (fun g hg => c.cm g hg h hh) (z := y) (by omega) hb
  omega
/-- All orbits of the low moves in an orbit of both have one length. -/
theorem Comm.all (c : Comm n lo hi) (hu : ∀ g ∈ us, g ∈ lo ∨ g ∈ hi) (hsu : okSys n us = true) (hf : f < n) {z : Nat} (hz : (z : Int) ∈ orbL us n f) : (orbL lo n z).length = (orbL lo n f).length := by
  have hR : Closed us ((unitL n).filter fun w => decide ((orbL lo n w).length = (orbL lo n f).length)) := by
    intro g hg w hw
    obtain ⟨h1, h2⟩ := List.mem_filter.1 hw
    obtain ⟨k, hk, rfl⟩ : ∃ k : Nat, k < n ∧ (k : Int) = w := by simpa [unitL] using h1
    have hi := sys_img hsu hg (x := (k : Int)) (by omega) (by omega)
    obtain ⟨y, hy⟩ := Int.eq_ofNat_of_zero_le hi.1
    have hyn : y < n := by omega
    have h2 := of_decide_eq_true h2
    refine List.mem_filter.2 ⟨List.mem_map.2 ⟨y, by simpa using hyn, hy.symm⟩, decide_eq_true ?_⟩
    rw [← h2, hy]
    rcases hu g hg with h3 | h3
    · refine orb_mem c.slo hk hyn ?_
      have := (orb_facts c.slo hk).2.2 g h3 _ (orb_facts c.slo hk).2.1
      rwa [hy] at this
    · exact c.len h3 hk hy
  have hin := orb_sub hR (q := f) (List.mem_filter.2 ⟨List.mem_map.2 ⟨f, by simpa using hf, rfl⟩, decide_eq_true rfl⟩) _ hz
  exact of_decide_eq_true (List.mem_filter.1 hin).2
theorem filter_len (l : List Int) (p : Int → Bool) : l.length = (l.filter p).length + (l.filter fun w => !p w).length := by
  induction l with
  | nil => rfl
  | cons x l ih => cases h : p x <;> simp [h, ih] <;> omega
/-- A list that is a union of orbits of one length has a multiple of it as its length. -/
theorem orbs_dvd (hsys : okSys n lo = true) : ∀ (d : Nat) (O : List Int), O.length ≤ d → Passed n O → Closed lo O → (∀ z : Nat, (z : Int) ∈ O → (orbL lo n z).length = a) → a ∣ O.length
  | 0, O, hd, _, _, _ => by rw [show O.length = 0 by omega]; exact Nat.dvd_zero _
  | d + 1, O, hd, hp, hc, ha => by
    cases O with
    | nil => exact Nat.dvd_zero _
    | cons x O =>
      obtain ⟨z, rfl⟩ := Int.eq_ofNat_of_zero_le (hp.1 x (by simp)).1
      have hz : z < n := by have := (hp.1 z (by simp)).2; omega
      obtain ⟨zpa, zm, zcl⟩ := orb_facts hsys hz
      have hsub := orb_sub (n := n) hc (q := z) (by simp)
      have hza := ha z (by simp)
      obtain ⟨Q, hQ⟩ : ∃ Q, (z : Int) :: O = Q := ⟨_, rfl⟩
      rw [hQ] at hd hp hc ha hsub ⊢
      have hlen : Q.length = (Q.filter fun w => decide (w ∈ orbL lo n z)).length + (Q.filter fun w => !decide (w ∈ orbL lo n z)).length := by
        exact filter_len Q fun w => decide (w ∈ orbL lo n z)
      have hin : (Q.filter fun w => decide (w ∈ orbL lo n z)).length = a := by
        rw [← hza]
        refine Nat.le_antisymm ?_ ?_
        · exact List.Nodup.length_le_of_subset (hp.2.filter _) fun w hw => of_decide_eq_true (List.mem_filter.1 hw).2
        · exact List.Nodup.length_le_of_subset zpa.2 fun w hw => List.mem_filter.2 ⟨hsub w hw, decide_eq_true hw⟩
      have h1 : 0 < a := by rw [← hza]; exact List.length_pos_of_mem zm
      have h2 := orbs_dvd hsys d (Q.filter fun w => !decide (w ∈ orbL lo n z)) (by omega) ⟨fun x hx => hp.1 x (List.mem_filter.1 hx).1, hp.2.filter _⟩ (fun g hg w hw => by
        obtain ⟨h3, h4⟩ := List.mem_filter.1 hw
        have hr := hp.1 w h3
        refine List.mem_filter.2 ⟨hc g hg w h3, ?_⟩
        have h5 : ¬ w ∈ orbL lo n z := by simpa using h4
        have := closed_out hsys hg zpa zcl hr.1 hr.2 h5
        simpa using this) (fun y hy => ha y (List.mem_filter.1 hy).1)
      rw [hlen, hin]
      exact Nat.dvd_add (Nat.dvd_refl _) h2
theorem Comm.dvd (c : Comm n lo hi) (hu : ∀ g ∈ us, g ∈ lo ∨ g ∈ hi) (hlu : ∀ g ∈ lo, g ∈ us) (hsu : okSys n us = true) (hf : f < n) : (orbL lo n f).length ∣ (orbL us n f).length := by
  obtain ⟨hpa, hm, hcl⟩ := orb_facts hsu hf
  exact orbs_dvd c.slo _ _ (Nat.le_refl _) hpa (fun g hg => hcl g (hlu g hg)) fun z hz => c.all hu hsu hf hz
theorem flat_lenA (F : Int → List Int) (a : Nat) : ∀ l : List Int, (∀ x ∈ l, (F x).length = a) → (l.flatMap F).length = l.length * a
  | [], _ => by simp
  | x :: l, h => by
    rw [List.flatMap_cons, List.length_append, h x (by simp), flat_lenA F a l (fun y hy => h y (by simp [hy])), List.length_cons, Nat.add_mul]
    omega
theorem Comm.le (c : Comm n lo hi) (hu : ∀ g ∈ us, g ∈ lo ∨ g ∈ hi) (hhu : ∀ g ∈ hi, g ∈ us) (hsu : okSys n us = true) (hf : f < n) : (orbL us n f).length ≤ (orbL lo n f).length * (orbL hi n f).length := by
  obtain ⟨hpa, hm, hcl⟩ := orb_facts hsu hf
  obtain ⟨tpa, tm, tcl⟩ := orb_facts c.shi hf
  have htu : ∀ x ∈ orbL hi n f, x ∈ orbL us n f := orb_sub (fun g hg => hcl g (hhu g hg)) hm
  have hR : Closed us ((orbL hi n f).flatMap (orbL lo n)) := by
    intro g hg w hw
    obtain ⟨x, hx, hwx⟩ := List.mem_flatMap.1 hw
    obtain ⟨z, rfl⟩ := Int.eq_ofNat_of_zero_le (tpa.1 x hx).1
    have hz : z < n := by have := (tpa.1 _ hx).2; omega
    rcases hu g hg with h3 | h3
    · exact List.mem_flatMap.2 ⟨_, hx, (orb_facts c.slo hz).2.2 g h3 w hwx⟩
    · refine List.mem_flatMap.2 ⟨_, tcl g h3 _ hx, ?_⟩
      have hr := (sys_parts c.shi).2.2.2 g h3
      exact comm_orb c.slo (fun k hk => fz_in (n := n) (by omega) hr.2 (by omega) (by omega)) (fun g' hg' => c.cm g' hg' g h3) hz w hwx
  have h0 := orb_sub (n := n) hR (q := f) (List.mem_flatMap.2 ⟨_, tm, (orb_facts c.slo hf).2.1⟩)
  have h1 := List.Nodup.length_le_of_subset hpa.2 h0
  rw [flat_lenA (orbL lo n) (orbL lo n f).length _ fun x hx => by
    obtain ⟨z, rfl⟩ := Int.eq_ofNat_of_zero_le (tpa.1 x hx).1
    exact c.all hu hsu hf (htu _ hx)] at h1
  rwa [Nat.mul_comm]
end
section
variable {xss : List (List Int)} {n i f : Nat}
theorem man_comm (h : IsMan xss) (i : Nat) : Comm (flN xss) (xss.take i) (xss.drop (i + 1)) := by
  have hs := h.sys
  have h1 : okSys (flN xss) (xss.take i) = true := by have := okSys_cut hs 0 i; simpa using this
  have h2 : okSys (flN xss) (xss.drop (i + 1)) = true := by
    have := okSys_cut hs (i + 1) xss.length
    rwa [List.take_of_length_le (by simp)] at this
  refine ⟨h1, h2, fun g hg => (h.row g (List.mem_of_mem_drop hg)).2.2, fun g hg => (h.row g (List.mem_of_mem_take hg)).2.2, fun g hg q hq k hk => ?_⟩
  obtain ⟨a, ha, rfl⟩ := List.mem_iff_getElem.1 hg
  obtain ⟨b, hb, rfl⟩ := List.mem_iff_getElem.1 hq
  rw [List.length_take] at ha
  rw [List.length_drop] at hb
  have e1 : xss[a]? = some (xss.take i)[a] := by rw [List.getElem_take, List.getElem?_eq_getElem]
  have e2 : xss[i + 1 + b]? = some (xss.drop (i + 1))[b] := by rw [List.getElem_drop, List.getElem?_eq_getElem]
  exact ((h.sq a (i + 1 + b) _ _ (by omega) e1 e2 k hk).2).symm
theorem erase_mem {g : List Int} (hg : g ∈ xss.eraseIdx i) : g ∈ xss.take i ∨ g ∈ xss.drop (i + 1) := by
  rw [List.eraseIdx_eq_take_drop_succ] at hg
  exact List.mem_append.1 hg
theorem mem_erase {g : List Int} (hg : g ∈ xss.take i ∨ g ∈ xss.drop (i + 1)) : g ∈ xss.eraseIdx i := by
  rw [List.eraseIdx_eq_take_drop_succ]
  exact List.mem_append.2 hg
/-- What FnFaceSections asks of the numbers of flags. -/
theorem face_facts (h : IsMan xss) (hf : f < flN xss) : (orbL (xss.take i) (flN xss) f).length ∣ (orbL (xss.eraseIdx i) (flN xss) f).length ∧ (orbL (xss.drop (i + 1)) (flN xss) f).length ∣ (orbL (xss.eraseIdx i) (flN xss) f).length ∧
    (orbL (xss.eraseIdx i) (flN xss) f).length ≤ (orbL (xss.take i) (flN xss) f).length * (orbL (xss.drop (i + 1)) (flN xss) f).length ∧
    ∀ z : Nat, (z : Int) ∈ orbL (xss.eraseIdx i) (flN xss) f → (orbL (xss.take i) (flN xss) z).length = (orbL (xss.take i) (flN xss) f).length := by
  have c := man_comm h i
  have hsu := okSys_erase h.sys i
  exact ⟨c.dvd (fun g hg => erase_mem hg) (fun g hg => mem_erase (.inl hg)) hsu hf, c.symm.dvd (fun g hg => (erase_mem hg).symm) (fun g hg => mem_erase (.inr hg)) hsu hf, c.le (fun g hg => erase_mem hg) (fun g hg => mem_erase (.inr hg)) hsu hf, fun z hz => c.all (fun g hg => erase_mem hg) hsu hf hz⟩
end
end Go.Proofs.Ytmfddenjemoedaa
