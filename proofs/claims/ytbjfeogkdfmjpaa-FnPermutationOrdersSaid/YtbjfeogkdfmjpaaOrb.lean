/- Orbits as both programs find them; plain facts, no program. -/
import Derived.Test.YtbjfeogkdfmjpaaWkK
import Derived.Test.YtbjfeogkdfmjpaaPow
import Derived.Test.YtbjfeogkdfmjpaaWkO
namespace Go.Proofs.Ytbjfeogkdfmjpaa
open Go.RowKit

/-- One generator is done to x: the image is put behind O, if it is new. -/
def genStep (R : List Int) (x : Int) (O g : List Int) : List Int := if g.getD x.toNat 0 ∈ R ++ O then O else O ++ [g.getD x.toNat 0]
def bfsG (R : List Int) (x : Int) (gs : List (List Int)) (O : List Int) : List Int := gs.foldl (genStep R x) O
def bfs (xss : List (List Int)) (R : List Int) : Nat → List Int → Nat → List Int
  | 0, O, _ => O
  | f + 1, O, i => match O[i]? with
    | none => O
    | some x => bfs xss R f (bfsG R x xss O) (i + 1)
theorem bfs_done {xss : List (List Int)} {R O : List Int} {f i : Nat} (h : O.length ≤ i) : bfs xss R f O i = O := by
  cases f with
  | zero => rfl
  | succ f => rw [bfs, List.getElem?_eq_none h]
theorem bfs_go {xss : List (List Int)} {R O : List Int} {n i : Nat} {x : Int} (h : O[i]? = some x) (hn : i < n) : bfs xss R (n - i) O i = bfs xss R (n - (i + 1)) (bfsG R x (xss.drop 0) O) (i + 1) := by
  rw [show n - i = (n - (i + 1)) + 1 by omega, bfs, h, List.drop_zero]
theorem bfsG_go {xss : List (List Int)} {R O g : List Int} {j : Nat} {x y : Int} (h : xss[j]? = some g) (hy : g.getD x.toNat 0 = y) : bfsG R x (xss.drop j) O = bfsG R x (xss.drop (j + 1)) (if y ∈ R ++ O then O else O ++ [y]) := by
  have hj := (List.getElem?_eq_some_iff.1 h)
  obtain ⟨h1, h2⟩ := hj
  rw [List.drop_eq_getElem_cons h1, h2]
  simp only [bfsG, List.foldl_cons, genStep, hy]
theorem bfsG_end {xss : List (List Int)} {R O : List Int} {j : Nat} {x : Int} (h : xss.length ≤ j) : bfsG R x (xss.drop j) O = O := by
  rw [List.drop_of_length_le h]; rfl
theorem sys_img {n : Nat} {xss : List (List Int)} {g : List Int} (h : okSys n xss = true) (hg : g ∈ xss) {x : Int} (h0 : 0 ≤ x) (h1 : x < (n : Int)) : 0 ≤ fz g x ∧ fz g x < (n : Int) := by
  have h2 := (sys_parts h).2.2.2 g hg
  exact fz_in (by omega) h2.2 h0 h1
/-- R is kept by every generator. -/
def Closed (xss : List (List Int)) (R : List Int) : Prop := ∀ g ∈ xss, ∀ x ∈ R, fz g x ∈ R
theorem passed_sub {n : Nat} {l l' : List Int} (h : Passed n l) (hnd : l'.Nodup) (hs : l' ⊆ l) : Passed n l' := ⟨fun x hx => h.1 x (hs hx), hnd⟩
/-- A point outside of a closed list is led outside. -/
theorem closed_out {n : Nat} {xss : List (List Int)} {g R : List Int} (hsys : okSys n xss = true) (hg : g ∈ xss) (hR : Passed n R) (hc : Closed xss R) {x : Int} (h0 : 0 ≤ x) (h1 : x < (n : Int)) (hx : ¬ x ∈ R) : ¬ fz g x ∈ R := by
  intro hy
  have hok := ((sys_parts hsys).2.2.2 g hg)
  have hl : g.length = n := by omega
  have hnd : (fz g x :: R.map (fz g)).Nodup ∨ ∃ z ∈ R, fz g z = fz g x := by
    by_cases h : fz g x ∈ R.map (fz g)
    · obtain ⟨z, hz, he⟩ := List.mem_map.1 h
      exact .inr ⟨z, hz, he⟩
    · refine .inl (List.nodup_cons.2 ⟨h, ?_⟩)
      refine List.pairwise_map.2 ?_
      refine List.Pairwise.imp_of_mem ?_ hR.2
      intro a b ha hb hab he
      exact hab (fz_inj hl hok.2 (hR.1 a ha).1 (hR.1 a ha).2 (hR.1 b hb).1 (hR.1 b hb).2 he)
  rcases hnd with h | ⟨z, hz, he⟩
  · have hs : (fz g x :: R.map (fz g)) ⊆ R := by
      intro y hy'
      rcases List.mem_cons.1 hy' with rfl | h2
      · exact hy
      · obtain ⟨z, hz, rfl⟩ := List.mem_map.1 h2
        exact hc g hg z hz
    have := List.Nodup.length_le_of_subset h hs
    simp at this
    omega
  · have := fz_inj hl hok.2 (hR.1 z hz).1 (hR.1 z hz).2 h0 h1 he
    exact hx (this ▸ hz)
theorem ps_push {n : Nat} {R O : List Int} {y : Int} (h : Passed n (R ++ O)) (h0 : 0 ≤ y) (h1 : y < (n : Int)) (hn : ¬ y ∈ R ++ O) : Passed n (R ++ (O ++ [y])) := by
  obtain ⟨q, rfl⟩ := Int.eq_ofNat_of_zero_le h0
  rw [← List.append_assoc]
  exact passed_snoc h (by omega) hn
/-- With a closed list R aside, the search goes as without it. -/
theorem bfsG_aside {n : Nat} {xss : List (List Int)} {R : List Int} (hsys : okSys n xss = true) (hR : Passed n R) (hc : Closed xss R) {x : Int} (h0 : 0 ≤ x) (h1 : x < (n : Int)) (hx : ¬ x ∈ R) :
    ∀ (gs : List (List Int)), (∀ g ∈ gs, g ∈ xss) → ∀ (O : List Int), Passed n (R ++ O) → bfsG R x gs O = bfsG [] x gs O ∧ Passed n (R ++ bfsG R x gs O) ∧ O ⊆ bfsG R x gs O ∧ ∀ g ∈ gs, fz g x ∈ bfsG R x gs O
  | [], _, O, hp => ⟨rfl, hp, fun a h => h, by simp⟩
  | g :: gs, hgs, O, hp => by
    have hg := hgs g (by simp)
    have hi := sys_img hsys hg h0 h1
    have ho := closed_out hsys hg hR hc h0 h1 hx
    have e : genStep R x O g = genStep [] x O g := by
      unfold genStep
      have : (g.getD x.toNat 0 ∈ R ++ O) ↔ (g.getD x.toNat 0 ∈ [] ++ O) := by
        rw [List.nil_append, List.mem_append]
        exact ⟨fun h => h.resolve_left ho, .inr⟩
      simp only [this]
    have hmem : fz g x ∈ genStep R x O g ∧ O ⊆ genStep R x O g ∧ Passed n (R ++ genStep R x O g) := by
      unfold genStep
      split
      · rename_i h
        exact ⟨(List.mem_append.1 h).resolve_left ho, fun a h => h, hp⟩
      · rename_i h
        exact ⟨by simp [fz], fun a h => List.mem_append.2 (.inl h), ps_push hp hi.1 hi.2 h⟩
    obtain ⟨a1, a2, a3, a4⟩ := bfsG_aside hsys hR hc h0 h1 hx gs (fun g' h => hgs g' (List.mem_cons.2 (.inr h))) (genStep R x O g) hmem.2.2
    have f1 : bfsG R x (g :: gs) O = bfsG R x gs (genStep R x O g) := rfl
    have f2 : bfsG [] x (g :: gs) O = bfsG [] x gs (genStep [] x O g) := rfl
    rw [f1, f2, ← e]
    refine ⟨a1, a2, fun a h => a3 (hmem.2.1 h), fun g' h => ?_⟩
    rcases List.mem_cons.1 h with rfl | h
    · exact a3 hmem.1
    · exact a4 g' h
theorem genStep_pre (R : List Int) (x : Int) (O g : List Int) : O <+: genStep R x O g := by
  unfold genStep; split
  · exact List.prefix_refl _
  · exact List.prefix_append _ _
theorem bfsG_pre (R : List Int) (x : Int) : ∀ (gs : List (List Int)) (O : List Int), O <+: bfsG R x gs O
  | [], _ => List.prefix_refl _
  | g :: gs, O => (genStep_pre R x O g).trans (bfsG_pre R x gs (genStep R x O g))
theorem bfs_aside {n : Nat} {xss : List (List Int)} {R : List Int} (hsys : okSys n xss = true) (hR : Passed n R) (hc : Closed xss R) :
    ∀ (f : Nat) (O : List Int) (i : Nat), f = n - i → Passed n (R ++ O) → i ≤ O.length → (∀ k < i, ∀ z, O[k]? = some z → ∀ g ∈ xss, fz g z ∈ O) →
      bfs xss R f O i = bfs xss [] f O i ∧ Passed n (R ++ bfs xss R f O i) ∧ O <+: bfs xss R f O i ∧ Closed xss (bfs xss R f O i)
  | 0, O, i, hf, hp, hi, hcl => by
    refine ⟨rfl, hp, List.prefix_refl _, ?_⟩
    have hl := passed_len hp
    simp at hl
    intro g hg x hx
    have hx : x ∈ O := hx
    obtain ⟨k, hk, rfl⟩ := List.mem_iff_getElem.1 hx
    exact hcl k (by omega) _ (List.getElem?_eq_getElem hk) g hg
  | f + 1, O, i, hf, hp, hi, hcl => by
    cases hz : O[i]? with
    | none =>
      have e1 : bfs xss R (f + 1) O i = O := by rw [bfs, hz]
      have e2 : bfs xss [] (f + 1) O i = O := by rw [bfs, hz]
      rw [e1, e2]
      refine ⟨rfl, hp, List.prefix_refl _, ?_⟩
      have hl := List.getElem?_eq_none_iff.1 hz
      intro g hg x hx
      obtain ⟨k, hk, rfl⟩ := List.mem_iff_getElem.1 hx
      exact hcl k (by omega) _ (List.getElem?_eq_getElem hk) g hg
    | some x =>
      have e1 : bfs xss R (f + 1) O i = bfs xss R f (bfsG R x xss O) (i + 1) := by rw [bfs, hz]
      have e2 : bfs xss [] (f + 1) O i = bfs xss [] f (bfsG [] x xss O) (i + 1) := by rw [bfs, hz]
      have hxm : x ∈ O := List.mem_of_getElem? hz
      have hxr := hp.1 x (List.mem_append.2 (.inr hxm))
      have hxR : ¬ x ∈ R := fun h => (List.nodup_append.1 hp.2).2.2 x h x hxm rfl
      obtain ⟨a1, a2, a3, a4⟩ := bfsG_aside hsys hR hc hxr.1 hxr.2 hxR xss (fun g h => h) O hp
      have hpre := bfsG_pre R x xss O
      have hlt := (List.getElem?_eq_some_iff.1 hz).1
      have keep : ∀ k < O.length, (bfsG R x xss O)[k]? = O[k]? := fun k hk => by
        obtain ⟨t, ht⟩ := hpre
        rw [← ht, List.getElem?_append_left hk]
      obtain ⟨b1, b2, b3, b4⟩ := bfs_aside hsys hR hc f (bfsG R x xss O) (i + 1) (by omega) a2 (Nat.le_trans hlt hpre.length_le) (by
        intro k hk z hkz g hg
        rcases Nat.lt_succ_iff_lt_or_eq.1 hk with h | rfl
        · rw [keep k (by omega)] at hkz
          exact a3 (hcl k h z hkz g hg)
        · rw [keep k hlt, hz] at hkz
          injection hkz with hkz
          subst hkz
          exact a4 g hg)
      rw [e1, e2, ← a1]
      exact ⟨b1, b2, hpre.trans b3, b4⟩
def orbL (xss : List (List Int)) (n : Nat) (p : Int) : List Int := bfs xss [] n [p] 0
theorem passed_nil (n : Nat) : Passed n [] := ⟨by simp, by simp⟩
theorem closed_nil (xss : List (List Int)) : Closed xss [] := fun g _ x h => by simp at h
/-- The orbit of a point outside of a closed list. -/
theorem orb_aside {n p : Nat} {xss : List (List Int)} {R : List Int} (hsys : okSys n xss = true) (hR : Passed n R) (hc : Closed xss R) (hp : p < n) (hn : ¬ (p : Int) ∈ R) :
    bfs xss R n [(p : Int)] 0 = orbL xss n p ∧ Passed n (R ++ orbL xss n p) ∧ (p : Int) ∈ orbL xss n p ∧ Closed xss (R ++ orbL xss n p) := by
  obtain ⟨a1, a2, a3, a4⟩ := bfs_aside hsys hR hc n [(p : Int)] 0 rfl (passed_snoc hR hp hn) (by simp) (fun k hk => absurd hk (by omega))
  rw [a1] at a2 a3 a4
  refine ⟨a1, a2, a3.subset (by simp), ?_⟩
  intro g hg x hx
  rcases List.mem_append.1 hx with h | h
  · exact List.mem_append.2 (.inl (hc g hg x h))
  · exact List.mem_append.2 (.inr (a4 g hg x h))
theorem orb_passed {n p : Nat} {xss : List (List Int)} (hsys : okSys n xss = true) (hp : p < n) : Passed n (orbL xss n p) := by
  simpa using (orb_aside hsys (passed_nil n) (closed_nil xss) hp (by simp)).2.1
/-- The orbits of the points below k. -/
def orbsTo (xss : List (List Int)) (n : Nat) : Nat → List (List Int)
  | 0 => []
  | k + 1 => if (k : Int) ∈ (orbsTo xss n k).flatten then orbsTo xss n k else orbsTo xss n k ++ [orbL xss n k]
theorem orbsTo_facts {n : Nat} {xss : List (List Int)} (hsys : okSys n xss = true) : ∀ k, k ≤ n → Passed n (orbsTo xss n k).flatten ∧ Closed xss (orbsTo xss n k).flatten ∧ (orbsTo xss n k).length ≤ k ∧ ∀ p : Nat, p < k → (p : Int) ∈ (orbsTo xss n k).flatten
  | 0, _ => ⟨by simpa [orbsTo] using passed_nil n, by simpa [orbsTo] using closed_nil xss, by simp [orbsTo], fun p h => absurd h (by omega)⟩
  | k + 1, hk => by
    obtain ⟨a1, a2, a3, a4⟩ := orbsTo_facts hsys k (by omega)
    unfold orbsTo
    split
    · rename_i h
      refine ⟨a1, a2, by omega, fun p hp => ?_⟩
      rcases Nat.lt_succ_iff_lt_or_eq.1 hp with h1 | rfl
      · exact a4 p h1
      · exact h
    · rename_i h
      obtain ⟨b1, b2, b3, b4⟩ := orb_aside hsys a1 a2 (show k < n by omega) h
      rw [List.flatten_append]
      simp only [List.flatten_cons, List.flatten_nil, List.append_nil]
      refine ⟨b2, b4, by simp; omega, fun p hp => List.mem_append.2 ?_⟩
      rcases Nat.lt_succ_iff_lt_or_eq.1 hp with h1 | rfl
      · exact .inl (a4 p h1)
      · exact .inr b3
theorem orbsTo_in {xss : List (List Int)} {n k : Nat} (h : (k : Int) ∈ (orbsTo xss n k).flatten) : orbsTo xss n (k + 1) = orbsTo xss n k := by rw [orbsTo, if_pos h]
theorem orbsTo_out {xss : List (List Int)} {n k : Nat} (h : ¬ (k : Int) ∈ (orbsTo xss n k).flatten) : orbsTo xss n (k + 1) = orbsTo xss n k ++ [orbL xss n k] := by rw [orbsTo, if_neg h]
/-- The list has, at each point, the number of its orbit. -/
def LabOk (D : List Int) (orbs : List (List Int)) : Prop := ∀ (i : Nat) (o : List Int), orbs[i]? = some o → ∀ p : Nat, (p : Int) ∈ o → D[p]? = some (i : Int)
theorem labOk_nil (D : List Int) : LabOk D [] := fun i o h => by simp at h
/-- The points of vis have got the label m. -/
def NewOk (D vis : List Int) (m : Nat) : Prop := ∀ p : Nat, (p : Int) ∈ vis → D[p]? = some (m : Int)
theorem newOk_nil (D : List Int) (m : Nat) : NewOk D [] m := fun p h => by simp at h
theorem lab_set {D : List Int} {orbs : List (List Int)} {p m : Nat} (h : LabOk D orbs) (hp : ¬ (p : Int) ∈ orbs.flatten) : LabOk (D.set p (m : Int)) orbs := by
  intro i o ho q hq
  have hne : p ≠ q := by
    rintro rfl
    exact hp (List.mem_flatten.2 ⟨o, List.mem_of_getElem? ho, hq⟩)
  rw [List.getElem?_set_ne hne]
  exact h i o ho q hq
theorem new_set {D vis : List Int} {p m : Nat} (h : NewOk D vis m) (hp : p < D.length) : NewOk (D.set p (m : Int)) (vis ++ [(p : Int)]) m := by
  intro q hq
  by_cases e : p = q
  · subst e; rw [List.getElem?_set_self hp]
  · rw [List.getElem?_set_ne e]
    rcases List.mem_append.1 hq with h1 | h1
    · exact h q h1
    · simp at h1; omega
theorem lab_snoc {D o : List Int} {orbs : List (List Int)} (h : LabOk D orbs) (hn : NewOk D o orbs.length) : LabOk D (orbs ++ [o]) := by
  intro i o' ho p hp
  by_cases hi : i < orbs.length
  · rw [List.getElem?_append_left hi] at ho
    exact h i o' ho p hp
  · rw [List.getElem?_append_right (by omega)] at ho
    have : i - orbs.length = 0 := by have := (List.getElem?_eq_some_iff.1 ho).1; simp at this; omega
    rw [this] at ho
    simp at ho
    subst ho
    obtain rfl : i = orbs.length := by omega
    exact hn p hp
def labL (xss : List (List Int)) (n : Nat) : List Int := (List.range n).map fun (p : Nat) => (((orbsTo xss n n).findIdx fun o => decide ((p : Int) ∈ o) : Nat) : Int)
theorem labL_length (xss : List (List Int)) (n : Nat) : (labL xss n).length = n := by simp [labL]
theorem lab_all {D : List Int} {n : Nat} {xss : List (List Int)} (hsys : okSys n xss = true) (hD : D.length = n) (h : LabOk D (orbsTo xss n n)) : D = labL xss n := by
  apply List.ext_getElem?
  intro p
  by_cases hp : p < n
  · have hc := (orbsTo_facts hsys n (Nat.le_refl _)).2.2.2 p hp
    obtain ⟨o, ho, hpo⟩ := List.mem_flatten.1 hc
    have hlt : (orbsTo xss n n).findIdx (fun o => decide ((p : Int) ∈ o)) < (orbsTo xss n n).length := List.findIdx_lt_length_of_exists ⟨o, ho, by simpa using hpo⟩
    have hin : (p : Int) ∈ (orbsTo xss n n)[(orbsTo xss n n).findIdx (fun o => decide ((p : Int) ∈ o))] := by simpa using List.findIdx_getElem (w := hlt)
    rw [h _ _ (List.getElem?_eq_getElem hlt) p hin]
    simp [labL, hp]
  · rw [List.getElem?_eq_none (by omega), List.getElem?_eq_none (by rw [labL_length]; omega)]
/-- The points that are in no orbit yet have the label -1. -/
def Unlab (D : List Int) (n : Nat) (vis : List Int) : Prop := ∀ p : Nat, p < n → ¬ (p : Int) ∈ vis → D[p]? = some (-1)
theorem unlab_set {D vis : List Int} {n p : Nat} {m : Int} (h : Unlab D n vis) : Unlab (D.set p m) n (vis ++ [(p : Int)]) := by
  intro q hq hn
  have hne : p ≠ q := by rintro rfl; exact hn (by simp)
  rw [List.getElem?_set_ne hne]
  exact h q hq fun h1 => hn (List.mem_append.2 (.inl h1))
def labR (n : Int) (xss : List (List Int)) : List Int := if okSys n xss then labL xss n.toNat else []
theorem labR_len (n : Int) (xss : List (List Int)) : (labR n xss).length ≤ 400 := by
  unfold labR; split
  · rename_i h; rw [labL_length]; have := sys_parts h; omega
  · simp
def orbIn (n p : Int) : Bool := decide (0 ≤ p ∧ p < n)
def orbR (n : Int) (xss : List (List Int)) (p : Int) : List Int := if okSys n xss && orbIn n p then sortL (orbL xss n.toNat p) else []
def orbC (n : Int) (xss : List (List Int)) (p : Int) : Int := if okSys n xss then (if orbIn n p then 0 else 2) else 1
theorem orbR_len (n : Int) (xss : List (List Int)) (p : Int) : (orbR n xss p).length ≤ 400 := by
  unfold orbR; split
  · rename_i h
    simp only [Bool.and_eq_true] at h
    obtain ⟨h1, h2⟩ := h
    have h3 := sys_parts h1
    have h4 := of_decide_eq_true h2
    obtain ⟨q, rfl⟩ := Int.eq_ofNat_of_zero_le h4.1
    obtain ⟨m, rfl⟩ := Int.eq_ofNat_of_zero_le h3.1
    rw [sortL_length]
    have := passed_len (orb_passed h1 (show q < m by omega))
    simp
    omega
  · simp
end Go.Proofs.Ytbjfeogkdfmjpaa
