/- The face poset of a maniplex is a poset; its numbers of elements; incidence. Plain facts for FnFacePosets. -/
import Derived.Test.YtmfddenjemoedaaFsf
import Derived.Test.YtmfddenjemoedaaFo
import Derived.Test.YtmfddenjemoedaaPe
import Derived.Test.YtmfddenjemoedaaSpo
namespace Go.Proofs.Ytmfddenjemoedaa
open Go.RowKit

section
variable {xss : List (List Int)} {n N S i k e f d : Nat}
theorem rkL_at : ∀ {k i : Nat}, i < k → fstE xss n i ≤ e → e < fstE xss n (i + 1) → (rkL xss n k)[e]? = some (i : Int)
  | k + 1, i, hi, h1, h2 => by
    unfold rkL
    by_cases hk : i = k
    · subst hk
      rw [List.getElem?_append_right (by rw [rkL_len]; exact h1), rkL_len, List.getElem?_replicate, if_pos (by simp only [fstE] at h2; omega)]
    · have := fstE_mono (xss := xss) (n := n) (show i + 1 ≤ k by omega)
      rw [List.getElem?_append_left (by rw [rkL_len]; omega)]
      exact rkL_at (by omega) h1 h2
theorem rkL_of {x : Int} (h : (rkL xss n N)[e]? = some x) : ∃ i, i < N ∧ x = (i : Int) ∧ fstE xss n i ≤ e ∧ e < fstE xss n (i + 1) := by
  have he : e < fstE xss n N := by have := (List.getElem?_eq_some_iff.1 h).1; rwa [rkL_len] at this
  obtain ⟨i, hi, h1, h2⟩ := rank_of he
  rw [rkL_at hi h1 h2] at h
  exact ⟨i, hi, by simpa using h.symm, h1, h2⟩
/-- The label of a face is the same on the whole orbit of moves that keep it. -/
theorem lab_const (hsys : okSys n xss = true) {gs : List (List Int)} (hgs : okSys n gs = true) (hsub : ∀ g ∈ gs, g ∈ xss.eraseIdx i) (hf : f < n) {z : Nat} (hz : (z : Int) ∈ orbL gs n f) : z < n ∧ fE xss n i z = fE xss n i f := by
  have hu := okSys_erase hsys i
  have hzn : z < n := by have := (orb_facts hgs hf).1.1 _ hz; omega
  have hin : (z : Int) ∈ orbL (xss.eraseIdx i) n f := orb_sub (n := n) (q := f) (fun g hg => (orb_facts hu hf).2.2 g (hsub g hg)) (orb_facts hu hf).2.1 _ hz
  have hla := facL_at (xss := xss) (i := i) hf
  obtain ⟨j, hj⟩ := Int.eq_ofNat_of_zero_le (labL_in hu _ (List.mem_of_getElem? hla)).1
  rw [hj] at hla
  obtain ⟨o, ho, hfo⟩ := (lab_iff hu hf).1 hla
  obtain ⟨p, hp, hoe⟩ := orbsTo_of n (List.mem_of_getElem? ho)
  subst hoe
  have hzo : (z : Int) ∈ orbL (xss.eraseIdx i) n p := orb_sub (n := n) (q := f) (orb_facts hu hp).2.2 hfo _ hin
  have hlz := (lab_iff hu hzn).2 ⟨_, ho, hzo⟩
  refine ⟨hzn, ?_⟩
  unfold fE
  rw [hj]
  have : (facL xss n i).getD z 0 = (j : Int) := by
    have h2 : (facL xss n i)[z]? = some (j : Int) := hlz
    simp [List.getD, h2]
  rw [this]
/-- Flags with one face of the rank k: a third flag has the lower faces of the one and the greater ones of the other. -/
theorem between (h : IsMan xss) (hk : k < xss.length) {f f' : Nat} (hf : f < flN xss) (hf' : f' < flN xss) (he : fE xss (flN xss) k f = fE xss (flN xss) k f') :
    ∃ z, z < flN xss ∧ (∀ i, k < i → fE xss (flN xss) i z = fE xss (flN xss) i f) ∧ ∀ i, i < k → fE xss (flN xss) i z = fE xss (flN xss) i f' := by
  have hsys := h.sys
  have hu := okSys_erase hsys k
  have c := man_comm h k
  have hla := facL_at (xss := xss) (i := k) hf
  have hla' := facL_at (xss := xss) (i := k) hf'
  obtain ⟨j, hj⟩ := Int.eq_ofNat_of_zero_le (labL_in hu _ (List.mem_of_getElem? hla)).1
  obtain ⟨j', hj'⟩ := Int.eq_ofNat_of_zero_le (labL_in hu _ (List.mem_of_getElem? hla')).1
  have hjj : j = j' := by
    unfold fE at he
    rw [hj, hj'] at he
    omega
  subst hjj
  rw [hj] at hla
  rw [hj'] at hla'
  obtain ⟨o, ho, hfo⟩ := (lab_iff hu hf).1 hla
  obtain ⟨o', ho', hfo'⟩ := (lab_iff hu hf').1 hla'
  rw [ho] at ho'
  injection ho' with ho'
  subst ho'
  obtain ⟨p, hp, hoe⟩ := orbsTo_of (flN xss) (List.mem_of_getElem? ho)
  subst hoe
  have hff : (f' : Int) ∈ orbL (xss.eraseIdx k) (flN xss) f := (orb_same hu hp hf hfo).2 _ hfo'
  -- f' is reached by low moves and then by high ones
  obtain ⟨tpa, tm, tcl⟩ := orb_facts c.slo hf
  have hR : Closed (xss.eraseIdx k) ((orbL (xss.take k) (flN xss) f).flatMap (orbL (xss.drop (k + 1)) (flN xss))) := by
    intro g hg w hw
    obtain ⟨x, hx, hwx⟩ := List.mem_flatMap.1 hw
    obtain ⟨z, rfl⟩ := Int.eq_ofNat_of_zero_le (tpa.1 x hx).1
    have hz : z < flN xss := by have := (tpa.1 _ hx).2; omega
    rcases erase_mem hg with h3 | h3
    · refine List.mem_flatMap.2 ⟨_, tcl g h3 _ hx, ?_⟩
      have hr := (sys_parts c.slo).2.2.2 g h3
      exact comm_orb c.shi (fun k hk => fz_in (n := flN xss) (by omega) hr.2 (by omega) (by omega)) (fun g' hg' k hk => (c.cm g h3 g' hg' k hk).symm) hz w hwx
    · exact List.mem_flatMap.2 ⟨_, hx, (orb_facts c.shi hz).2.2 g h3 w hwx⟩
  have h0 := orb_sub (n := flN xss) hR (q := f) (List.mem_flatMap.2 ⟨_, tm, (orb_facts c.shi hf).2.1⟩) _ hff
  obtain ⟨x, hx, hfx⟩ := List.mem_flatMap.1 h0
  obtain ⟨z, rfl⟩ := Int.eq_ofNat_of_zero_le (tpa.1 x hx).1
  have hz : z < flN xss := by have := (tpa.1 _ hx).2; omega
  refine ⟨z, hz, fun i hi => (lab_const hsys c.slo (fun g hg => ?_) hf hx).2, fun i hi => ((lab_const hsys c.shi (fun g hg => ?_) hz hfx).2).symm⟩
  · obtain ⟨a, ha, hae⟩ := List.mem_iff_getElem.1 hg
    rw [List.length_take] at ha
    rw [List.getElem_take] at hae
    refine mem_erase (.inl (List.mem_iff_getElem.2 ⟨a, by rw [List.length_take]; omega, by rw [List.getElem_take, hae]⟩))
  · obtain ⟨a, ha, hae⟩ := List.mem_iff_getElem.1 hg
    rw [List.length_drop] at ha
    rw [List.getElem_drop] at hae
    refine mem_erase (.inr (List.mem_iff_getElem.2 ⟨k + 1 + a - (i + 1), by rw [List.length_drop]; omega, ?_⟩))
    rw [List.getElem_drop]
    simp only [show i + 1 + (k + 1 + a - (i + 1)) = k + 1 + a by omega]
    exact hae
theorem blw_mem {c : Nat} : ((c : Nat) : Int) ∈ blwL xss n N e ↔ c < fstE xss n N ∧ BelE xss n N e (c : Int) := by
  unfold blwL
  simp only [List.mem_map, List.mem_filter, List.mem_range]
  constructor
  · rintro ⟨d, ⟨h1, h2⟩, h3⟩
    have : d = c := by omega
    subst this
    exact ⟨h1, pB_iff.1 h2⟩
  · exact fun h => ⟨c, ⟨h.1, pB_true h.2⟩, rfl⟩
/-- The face poset is a poset. -/
theorem fp_pos (h : IsMan xss) (hx : xss.length = N) (hn : flN xss = n) (hS : fstE xss n N = S) (h5 : S ≤ 500) : OkPos (N : Int) (rkL xss n N) ((List.range S).map (blwL xss n N)) := by
  have hsys := h.sys
  have hr1 := h.r1
  have hr5 := h.r5
  rw [hn] at hsys
  refine ⟨⟨by omega, by omega, by rw [rkL_len]; omega, by simp [rkL_len, hS], fun e x he => ?_, fun e f x y hef he hf => ?_⟩, fun e b hb => ?_, fun e b hb d hd j r hdj hj c hc => ?_⟩
  · obtain ⟨i, hi, rfl, _⟩ := rkL_of he
    omega
  · obtain ⟨i, hi, rfl, h1, h2⟩ := rkL_of he
    obtain ⟨i', hi', rfl, h1', h2'⟩ := rkL_of hf
    by_cases hlt : i ≤ i'
    · omega
    · have := fstE_mono (xss := xss) (n := n) (show i' + 1 ≤ i by omega); omega
  · rw [List.getElem?_map] at hb
    obtain ⟨e', he', rfl⟩ := Option.map_eq_some_iff.1 hb
    have heS : e < S := by have := (List.getElem?_eq_some_iff.1 he').1; simpa using this
    obtain rfl : e = e' := by simpa [heS] using he'
    refine ⟨fun i d hd => ?_, fun i j c d hij hc hd => ?_⟩
    · have hm := List.mem_of_getElem? hd
      have hm' := hm
      unfold blwL at hm'
      obtain ⟨q, _, rfl⟩ := List.mem_map.1 hm'
      obtain ⟨hq, hbel⟩ := blw_mem.1 hm
      obtain ⟨a, ha, h1, h2⟩ := rank_of (xss := xss) (n := n) (show e < fstE xss n N by omega)
      obtain ⟨g, b, hg, hb2, rfl, rfl⟩ := (fr_bel hsys ha h1 h2).1 hbel
      have e1 := fE_bd (i := b) hsys hg
      have e2 := fE_bd (i := a) hsys hg
      have := fstE_mono (xss := xss) (n := n) (show b + 1 ≤ a by omega)
      exact ⟨_, (b : Int), (a : Int), rfl, by omega, rkL_at (by omega) e1.1 e1.2.1, rkL_at ha e2.1 e2.2.1, by omega⟩
    · have hso : (blwL xss n N e).Pairwise (· < ·) := by
        unfold blwL
        refine List.pairwise_map.2 (List.Pairwise.imp ?_ ((List.pairwise_lt_range).filter _))
        intro a b hab
        omega
      obtain ⟨hi, rfl⟩ := List.getElem?_eq_some_iff.1 hc
      obtain ⟨hj, rfl⟩ := List.getElem?_eq_some_iff.1 hd
      exact (List.pairwise_iff_getElem.1 hso) i j hi hj hij
  · subst hdj
    rw [List.getElem?_map] at hb hj
    obtain ⟨e', he', rfl⟩ := Option.map_eq_some_iff.1 hb
    obtain ⟨j', hj', rfl⟩ := Option.map_eq_some_iff.1 hj
    have heS : e < S := by have := (List.getElem?_eq_some_iff.1 he').1; simpa using this
    have hjS : j < S := by have := (List.getElem?_eq_some_iff.1 hj').1; simpa using this
    obtain rfl : e = e' := by simpa [heS] using he'
    obtain rfl : j = j' := by simpa [hjS] using hj'
    have hc' := hc
    unfold blwL at hc'
    obtain ⟨q, _, rfl⟩ := List.mem_map.1 hc'
    obtain ⟨hq, hbq⟩ := blw_mem.1 hc
    obtain ⟨_, hbj⟩ := blw_mem.1 hd
    obtain ⟨a, ha, h1, h2⟩ := rank_of (xss := xss) (n := n) (show e < fstE xss n N by omega)
    obtain ⟨g, b, hg, hba, rfl, hgj⟩ := (fr_bel hsys ha h1 h2).1 hbj
    have e1 := fE_bd (i := b) hsys hg
    obtain ⟨g', b', hg', hbb, hgj', rfl⟩ := (fr_bel hsys (show b < N by omega) (by omega) (by omega)).1 hbq
    have hn' := hn
    subst hn'
    obtain ⟨z, hz, z1, z2⟩ := between h (k := b) (by omega) hg hg' (by omega)
    refine blw_mem.2 ⟨hq, (fr_bel hsys ha h1 h2).2 ⟨z, b', hz, by omega, z1 a hba, z2 b' hbb⟩⟩
theorem rkL_count : ∀ k : Nat, (rkL xss n k).count (i : Int) = if i < k then cN xss n i else 0
  | 0 => by simp [rkL]
  | k + 1 => by
    rw [rkL, List.count_append, rkL_count k, List.count_replicate]
    by_cases h : i = k
    · subst h
      simp
    · have : ((k : Int) == (i : Int)) = false := by rw [beq_eq_false_iff_ne]; omega
      rw [this]
      have e : (i < k + 1) = (i < k) := propext ⟨fun h2 => by omega, fun h2 => by omega⟩
      simp only [e]
      simp
theorem cnts_cnt (hsys : okSys n xss = true) : cntsL (rkL xss n N) N = cntTo xss n N := by
  unfold cntsL cntTo
  refine List.map_congr_left fun i hi => ?_
  have hi : i < N := by simpa using hi
  have := grt_fac (i := i) hsys
  rw [rkL_count, if_pos hi]
  unfold cN
  omega
/-- Incidence. -/
theorem fp_inc (hsys : okSys n xss = true) (hik : i < k) (hk : k < N) {e f : Nat} (_he : e < cN xss n i) (hf : f < cN xss n k) : (((fstE xss n i + e : Nat)) : Int) ∈ blwL xss n N (fstE xss n k + f) ↔ ∃ g : Nat, g < n ∧ (facL xss n i)[g]? = some (e : Int) ∧ (facL xss n k)[g]? = some (f : Int) := by
  have hS := fstE_mono (xss := xss) (n := n) (show k + 1 ≤ N by omega)
  have h3 : fstE xss n (k + 1) = fstE xss n k + cN xss n k := rfl
  have h4 : fstE xss n (i + 1) = fstE xss n i + cN xss n i := rfl
  have h5 := fstE_mono (xss := xss) (n := n) (show i + 1 ≤ k by omega)
  have hfe : ∀ (g j a : Nat), g < n → (fE xss n j g = fstE xss n j + a ↔ (facL xss n j)[g]? = some (a : Int)) := fun g j a hg => by
    have hb := fE_bd (i := j) hsys hg
    rw [facL_at hg]
    constructor
    · intro h
      congr 1
      omega
    · intro h
      injection h with h
      omega
  rw [blw_mem, fr_bel hsys hk (by omega) (by omega)]
  constructor
  · rintro ⟨_, g, j, hg, hj, h1, h2⟩
    have hb := fE_bd (i := j) hsys hg
    have : j = i := by
      rcases Nat.lt_trichotomy j i with h | h | h
      · have := fstE_mono (xss := xss) (n := n) (show j + 1 ≤ i by omega); omega
      · exact h
      · have := fstE_mono (xss := xss) (n := n) (show i + 1 ≤ j by omega); omega
    subst this
    exact ⟨g, hg, (hfe g j e hg).1 h2, (hfe g k f hg).1 h1⟩
  · rintro ⟨g, hg, h1, h2⟩
    exact ⟨by omega, g, i, hg, hik, (hfe g k f hg).2 h2, (hfe g i e hg).2 h1⟩
end
end Go.Proofs.Ytmfddenjemoedaa
