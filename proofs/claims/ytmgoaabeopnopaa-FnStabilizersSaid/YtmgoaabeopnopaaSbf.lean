/- Stabilizers: the automorphisms that keep a face, times the faces of its orbit, are all automorphisms. Plain facts. -/
import Derived.Test.YtmgoaabeopnopaaL25
import Derived.Test.YtmgoaabeopnopaaL22
import Derived.Test.YtmgoaabeopnopaaAz
namespace Go.Proofs.Ytmgoaabeopnopaa
open Go.RowKit

/-- A list parted by what its members have. -/
theorem part_sum {α : Type} (f : α → Nat) (m : Nat) : ∀ l : List α, (∀ a ∈ l, f a < m) → l.length = ((List.range m).map fun z => (l.filter fun a => decide (f a = z)).length).sum
  | [], _ => by
    have : ∀ r : List Nat, (r.map fun _ => 0).sum = 0 := fun r => by induction r with
      | nil => rfl
      | cons a r ih => rw [List.map_cons, List.sum_cons, ih]
    simpa using (this (List.range m)).symm
  | a :: l, h => by
    have ih := part_sum f m l fun b hb => h b (List.mem_cons_of_mem _ hb)
    have hone : ∀ r : List Nat, r.Nodup → (r.map fun z => ((a :: l).filter fun b => decide (f b = z)).length).sum = (r.map fun z => (l.filter fun b => decide (f b = z)).length).sum + (if f a ∈ r then 1 else 0) := by
      intro r
      induction r with
      | nil => intro _; simp
      | cons z r ihr =>
        intro hnd
        obtain ⟨h1, h2⟩ := List.nodup_cons.1 hnd
        have h3 := ihr h2
        rw [List.map_cons, List.sum_cons, List.map_cons, List.sum_cons, h3, List.filter_cons]
        by_cases e : f a = z
        · subst e
          rw [if_pos (decide_eq_true rfl), if_neg h1, if_pos (List.mem_cons_self ..)]
          simp
          omega
        · rw [if_neg (by simpa using e)]
          by_cases e2 : f a ∈ r
          · rw [if_pos e2, if_pos (List.mem_cons_of_mem _ e2)]; omega
          · rw [if_neg e2, if_neg (fun h => by rcases List.mem_cons.1 h with h | h; exact e h; exact e2 h)]; omega
    rw [hone _ List.nodup_range, ← ih, if_pos (by simpa using h a (List.mem_cons_self ..))]
    rfl
theorem sum_if (p : Nat → Bool) (g : Nat → Nat) (s : Nat) : ∀ r : List Nat, (∀ z ∈ r, g z = if p z then s else 0) → (r.map g).sum = s * (r.filter p).length
  | [], _ => by simp
  | z :: r, h => by
    have ih := sum_if p g s r fun y hy => h y (List.mem_cons_of_mem _ hy)
    have hz := h z (List.mem_cons_self ..)
    rw [List.map_cons, List.sum_cons, ih, hz, List.filter_cons]
    cases p z
    · simp
    · simp [Nat.mul_add, Nat.add_comm]
section
variable {xss : List (List Int)} {i : Nat}
theorem fp_nat (hm : IsMan xss) {L : List Int} (hL : L ∈ autL xss) {y : Nat} (hy : y < fcn xss i) : ∃ k : Nat, k < fcn xss i ∧ fz (fpL xss i L) y = (k : Int) := by
  obtain ⟨p, hp, hpj⟩ := fL_onto hm hy
  obtain ⟨q, hq, he⟩ := aut_img hm hL hp
  obtain ⟨k, hk, hqk⟩ := fL_at (i := i) hm hq
  exact ⟨k, hk, by rw [fp_fz hm hL hp hpj, he, fz_at hqk]⟩
theorem sb_mem (hm : IsMan xss) {y : Nat} (hy : y < fcn xss i) {L : List Int} (hL : L ∈ autL xss) : fz (fL xss i) (fz L (idxL (fL xss i) (y : Int))) = fz (fpL xss i L) y := by
  obtain ⟨p, hp, hpj⟩ := fL_onto hm hy
  have hi := fz_idx (List.mem_of_getElem? hpj)
  obtain ⟨a, ha⟩ := Int.eq_ofNat_of_zero_le hi.1
  rw [fL_len] at hi
  have han : a < flN xss := by omega
  have hay : (fL xss i)[a]? = some (y : Int) := by
    rw [ha] at hi
    have h1 := fz_some (n := (fL xss i).length) rfl (x := (a : Int)) (by omega) (by rw [fL_len]; omega)
    rw [hi.2.2] at h1
    simpa using h1
  rw [ha, fp_fz hm hL han hay]
theorem fp_then (hm : IsMan xss) {L M : List Int} (hL : L ∈ autL xss) (hM : M ∈ autL xss) {y k : Nat} (hy : y < fcn xss i) (he : fz (fpL xss i L) y = (k : Int)) : fz (fpL xss i ((List.range (flN xss)).map fun k : Nat => fz M (fz L k))) y = fz (fpL xss i M) k := by
  obtain ⟨p, hp, hpj⟩ := fL_onto hm hy
  obtain ⟨q, hq, hq1⟩ := aut_img hm hL hp
  obtain ⟨k', hk, hqk⟩ := fL_at (i := i) hm hq
  have h1 := fp_fz hm hL hp hpj
  rw [he, hq1, fz_at hqk] at h1
  have : k = k' := by omega
  subst this
  rw [fp_fz hm (aut_then hm hL hM) hp hpj, fp_fz hm hM hq hqk, ← hq1]
  congr 1
  exact fz_at (by simp [hp])
/-- The automorphisms that lead a face to a face are not more than those that lead it to where another one leads this. -/
theorem sb_le (hm : IsMan xss) {y z t : Nat} (hy : y < fcn xss i) {M : List Int} (hM : M ∈ autL xss) (he : fz (fpL xss i M) z = (t : Int)) : ((autL xss).filter fun L => decide ((fz (fpL xss i L) y).toNat = z)).length ≤ ((autL xss).filter fun L => decide ((fz (fpL xss i L) y).toNat = t)).length := by
  have hn : 0 < flN xss := by have := hm.f2; omega
  have h1 : (((autL xss).filter fun L => decide ((fz (fpL xss i L) y).toNat = z)).map fun L => (List.range (flN xss)).map fun k : Nat => fz M (fz L k)).length ≤ ((autL xss).filter fun L => decide ((fz (fpL xss i L) y).toNat = t)).length := by
    refine List.Nodup.length_le_of_subset (List.pairwise_map.2 ((autL_nodup.filter _).imp_of_mem ?_)) fun K hK => ?_
    · intro a b ha hb hab h
      have ha' := (List.mem_filter.1 ha).1
      have hb' := (List.mem_filter.1 hb).1
      refine hab (aut_uniq hm ha' hb' hn ?_)
      have e : fz ((List.range (flN xss)).map fun k : Nat => fz M (fz a k)) ((0 : Nat) : Int) = fz ((List.range (flN xss)).map fun k : Nat => fz M (fz b k)) ((0 : Nat) : Int) := by rw [h]
      have e1 : fz ((List.range (flN xss)).map fun k : Nat => fz M (fz a k)) ((0 : Nat) : Int) = fz M (fz a ((0 : Nat) : Int)) := fz_at (by simp [hn])
      have e2 : fz ((List.range (flN xss)).map fun k : Nat => fz M (fz b k)) ((0 : Nat) : Int) = fz M (fz b ((0 : Nat) : Int)) := fz_at (by simp [hn])
      rw [e1, e2] at e
      obtain ⟨u, hu, hu1⟩ := aut_img hm ha' hn
      obtain ⟨v, hv, hv1⟩ := aut_img hm hb' hn
      rw [hu1, hv1] at e ⊢
      have := hom_inj hm.sys hm.sys rfl hn (fun _ hq => hm.all hq) ((aut_iff hm).1 hM) hu hv e
      rw [this]
    · obtain ⟨L, hL, rfl⟩ := List.mem_map.1 hK
      obtain ⟨hL1, hL2⟩ := List.mem_filter.1 hL
      have hz := of_decide_eq_true hL2
      obtain ⟨k, hk, hk1⟩ := fp_nat (i := i) hm hL1 hy
      rw [hk1] at hz
      have : k = z := by simpa using hz
      subst this
      refine List.mem_filter.2 ⟨aut_then hm hL1 hM, decide_eq_true ?_⟩
      rw [fp_then hm hL1 hM hy hk1, he]
      simp
  simpa using h1
/-- The numbers of the orbits of two faces are equal exactly if an automorphism leads the one to the other one. -/
theorem fo_same (hm : IsMan xss) {y z : Nat} (hy : y < fcn xss i) (hz : z < fcn xss i) : fz (foL xss i) z = fz (foL xss i) y ↔ ∃ M ∈ autL xss, fz (fpL xss i M) y = (z : Int) := by
  have hg := fps_grp (i := i) hm
  obtain ⟨a, o, ho, hp⟩ := labG_has hg (f := fcn xss i) (Nat.le_refl _) hy
  obtain ⟨b, o', ho', hp'⟩ := labG_has hg (f := fcn xss i) (Nat.le_refl _) hz
  have e1 : fz (foL xss i) y = (a : Int) := fz_at (labL_ok2 hg ho hp)
  have e2 : fz (foL xss i) z = (b : Int) := fz_at (labL_ok2 hg ho' hp')
  have hi := gorb_idx hg (Nat.le_refl _) hy hz ho hp
  rw [e1, e2]
  constructor
  · intro h
    have : b = a := by omega
    subst this
    rw [ho] at ho'
    injection ho' with ho'
    subst ho'
    obtain ⟨L, hL, hl⟩ := hi.1 hp'
    obtain ⟨M, hM, rfl⟩ := List.mem_map.1 hL
    exact ⟨M, hM, hl⟩
  · rintro ⟨M, hM, hl⟩
    have h1 := hi.2 ⟨_, List.mem_map.2 ⟨M, hM, rfl⟩, hl⟩
    have h2 := labL_ok2 hg ho h1
    have h3 := labL_ok2 hg ho' hp'
    rw [h2] at h3
    injection h3 with h3
    omega
/-- As many automorphisms as keep a face, times the faces of its orbit. -/
theorem sb_count (hm : IsMan xss) {y : Nat} (hy : y < fcn xss i) : (sbL xss i (y : Int)).length * ((List.range (fcn xss i)).filter fun (e : Nat) => decide (fz (foL xss i) e = fz (foL xss i) y)).length = (autL xss).length := by
  have hsb : sbL xss i (y : Int) = (autL xss).filter fun L => decide ((fz (fpL xss i L) y).toNat = y) := by
    unfold sbL
    refine List.filter_congr fun L hL => ?_
    rw [sb_mem hm hy hL]
    obtain ⟨k, _, hk⟩ := fp_nat (i := i) hm hL hy
    rw [hk, decide_eq_decide]
    omega
  have h1 := part_sum (fun L => (fz (fpL xss i L) y).toNat) (fcn xss i) (autL xss) fun L hL => by
    obtain ⟨k, hk, he⟩ := fp_nat (i := i) hm hL hy
    rw [he]
    simpa using hk
  rw [h1, hsb]
  refine (sum_if _ _ _ _ fun z hz => ?_).symm
  have hz : z < fcn xss i := by simpa using hz
  by_cases hs : fz (foL xss i) z = fz (foL xss i) y
  · rw [if_pos (decide_eq_true hs)]
    obtain ⟨M, hM, he⟩ := (fo_same hm hy hz).1 hs
    obtain ⟨K, hK, hk⟩ := (fo_same hm hz hy).1 hs.symm
    exact Nat.le_antisymm (sb_le hm hy hK hk) (sb_le hm hy hM he)
  · rw [if_neg (by simpa using hs)]
    rw [List.length_eq_zero_iff, List.filter_eq_nil_iff]
    intro L hL h
    have h2 := of_decide_eq_true h
    obtain ⟨k, hk, he⟩ := fp_nat (i := i) hm hL hy
    rw [he] at h2
    have : k = z := by simpa using h2
    subst this
    exact hs ((fo_same hm hy hz).2 ⟨L, hL, he⟩)
/-- There is one orbit of faces exactly if all have the number 0. -/
theorem fo_one (hm : IsMan xss) : decide ((orbsTo (fpsL xss i) (fcn xss i) (fcn xss i)).length = 1) = decide (∀ e : Nat, e < fcn xss i → fz (foL xss i) e = 0) := by
  have hg := fps_grp (i := i) hm
  have hp := gl_pos hg (fcn_pos hm)
  rw [decide_eq_decide]
  constructor
  · intro h e he
    obtain ⟨j, hj, h1⟩ := gl_at hg he
    have : fz (foL xss i) e = (j : Int) := fz_at h1
    rw [this]
    omega
  · intro h
    apply Classical.byContradiction
    intro hne
    obtain ⟨f, hf, h1⟩ := gl_onto hg (j := 1) (by omega)
    have h2 : fz (foL xss i) f = ((1 : Nat) : Int) := fz_at h1
    rw [h f hf] at h2
    exact absurd h2 (by decide)
/-- How many of the first e faces have the number of a face, and whether the first e all have the number 0. -/
def szTo (O : List Int) (x : Int) : Nat → Nat
  | 0 => 0
  | e + 1 => szTo O x e + (if fz O e = x then 1 else 0)
def sgTo (O : List Int) : Nat → Bool
  | 0 => true
  | e + 1 => sgTo O e && decide (fz O e = 0)
theorem szTo_le {O : List Int} {x : Int} : ∀ e, szTo O x e ≤ e
  | 0 => by simp [szTo]
  | e + 1 => by
    have := szTo_le (O := O) (x := x) e
    rw [szTo]
    split <;> omega
theorem szTo_eq {O : List Int} {x : Int} : ∀ e, ((List.range e).filter fun (k : Nat) => decide (fz O k = x)).length = szTo O x e
  | 0 => by simp [szTo]
  | e + 1 => by
    rw [List.range_succ, List.filter_append, List.length_append, szTo_eq e, szTo]
    by_cases h : fz O e = x
    · simp [h]
    · simp [h]
theorem sgTo_eq {O : List Int} : ∀ e, sgTo O e = decide (∀ k : Nat, k < e → fz O k = 0)
  | 0 => by simp [sgTo]
  | e + 1 => by
    rw [sgTo, sgTo_eq e, Bool.eq_iff_iff]
    simp only [Bool.and_eq_true, decide_eq_true_eq]
    constructor
    · rintro ⟨h1, h2⟩ k hk
      rcases Nat.lt_succ_iff_lt_or_eq.1 hk with h | rfl
      · exact h1 k h
      · exact h2
    · intro h
      exact ⟨fun k hk => h k (by omega), h e (by omega)⟩
/-- All that the law of stabilizers asks. -/
structure StbF (xss : List (List Int)) (i j : Nat) : Prop where
  ir : i < xss.length
  jr : j < fcn xss i
  f4 : fcn xss i ≤ 400
  rk : rkC xss (i : Int) = 0
  au : auC xss = 0
  fo : (foR6 xss (i : Int)).length = fcn xss i
  fc : (fcR xss)[i]? = some ((fcn xss i : Nat) : Int)
  fl : (fcR xss).length = xss.length
  mn : manC xss = 0
  tr : trB xss (i : Int) = sgTo (foR6 xss (i : Int)) (fcn xss i)
  ct : (sbR xss (i : Int) (j : Int)).length * szTo (foR6 xss (i : Int)) (fz (foR6 xss (i : Int)) j) (fcn xss i) = (auR xss).length
theorem stbF {k y : Int} (h : fcC xss k y (-1) = 0) : ∃ i j : Nat, k = (i : Int) ∧ y = (j : Int) ∧ StbF xss i j := by
  have hrk : rkC xss k = 0 := by
    apply Classical.byContradiction
    intro hne
    rw [fcC_rk hne] at h
    exact hne h
  obtain ⟨ho, hf, he⟩ := fcC_in (y := y) hrk
  have hm := okMan_iff.1 ho
  obtain ⟨i, rfl, hi⟩ := flagB_true hf
  rw [h] at he
  have hy : y ∈ facL xss (flN xss) i := by
    apply Classical.byContradiction
    intro hne
    rw [Int.toNat_natCast, if_neg hne] at he
    omega
  have hb := fL_in (i := i) hm y hy
  obtain ⟨j, rfl⟩ := Int.eq_ofNat_of_zero_le hb.1
  have hj : j < fcn xss i := by omega
  have hfo : foR6 xss (i : Int) = foL xss i := by rw [foR6, if_pos hrk, Int.toNat_natCast]
  refine ⟨i, j, rfl, rfl, hi, hj, by have := fcn_le (i := i) hm; have := hm.f4; omega, hrk, by simp [auC, ho], by rw [hfo, foL, labL_length], ?_, ?_, ?_, ?_, ?_⟩
  · rw [fcR, if_pos ho, cntTo_at hi]
    exact congrArg some (fL_grt hm)
  · rw [fcR, if_pos ho]
    simp [cntTo]
  · simp [manC, ho]
  · rw [hfo, sgTo_eq, ← fo_one hm, trB, hrk, Int.toNat_natCast]
    simp
  · rw [hfo, ← szTo_eq, sbR, if_pos h, Int.toNat_natCast, sb_count hm hj, auR, if_pos ho]
end
end Go.Proofs.Ytmgoaabeopnopaa
