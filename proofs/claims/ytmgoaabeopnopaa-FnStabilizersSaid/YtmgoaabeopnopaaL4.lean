import Derived.Test.YtmgoaabeopnopaaL2
import Derived.Test.YtmgoaabeopnopaaL3
/- Orbits as both programs find them; plain facts, no program. -/
namespace Go.Proofs.Ytmgoaabeopnopaa
open Go.RowKit

/-- One generator is done to x: the image is put behind O, if it is new. -/
def genStep (R : List Int) (x : Int) (O g : List Int) : List Int := if g.getD x.toNat 0 ∈ R ++ O then O else O ++ [g.getD x.toNat 0]
def bfsG (R : List Int) (x : Int) (gs : List (List Int)) (O : List Int) : List Int := gs.foldl (genStep R x) O
def bfs (xss : List (List Int)) (R : List Int) : Nat → List Int → Nat → List Int
  | 0, O, _ => O
  | f + 1, O, i => match O[i]? with
    | none => O
    | some x => bfs xss R f (bfsG R x xss O) (i + 1)
theorem bfs_done {xss : List (List Int)} {R O : List Int} {f i : Nat} (h : O.length ≤ i) : bfs xss R f O i = O := by
  cases f with
  | zero => rfl
  | succ f => rw [bfs, List.getElem?_eq_none h]
theorem bfs_go {xss : List (List Int)} {R O : List Int} {n i : Nat} {x : Int} (h : O[i]? = some x) (hn : i < n) : bfs xss R (n - i) O i = bfs xss R (n - (i + 1)) (bfsG R x (xss.drop 0) O) (i + 1) := by
  rw [show n - i = (n - (i + 1)) + 1 by omega, bfs, h, List.drop_zero]
theorem bfsG_go {xss : List (List Int)} {R O g : List Int} {j : Nat} {x y : Int} (h : xss[j]? = some g) (hy : g.getD x.toNat 0 = y) : bfsG R x (xss.drop j) O = bfsG R x (xss.drop (j + 1)) (if y ∈ R ++ O then O else O ++ [y]) := by
  have hj := (List.getElem?_eq_some_iff.1 h)
  obtain ⟨h1, h2⟩ := hj
  rw [List.drop_eq_getElem_cons h1, h2]
  simp only [bfsG, List.foldl_cons, genStep, hy]
theorem bfsG_end {xss : List (List Int)} {R O : List Int} {j : Nat} {x : Int} (h : xss.length ≤ j) : bfsG R x (xss.drop j) O = O := by
  rw [List.drop_of_length_le h]; rfl
theorem sys_img {n : Nat} {xss : List (List Int)} {g : List Int} (h : okSys n xss = true) (hg : g ∈ xss) {x : Int} (h0 : 0 ≤ x) (h1 : x < (n : Int)) : 0 ≤ fz g x ∧ fz g x < (n : Int) := by
  have h2 := (sys_parts h).2.2.2 g hg
  exact fz_in (by omega) h2.2 h0 h1
/-- R is kept by every generator. -/
def Closed (xss : List (List Int)) (R : List Int) : Prop := ∀ g ∈ xss, ∀ x ∈ R, fz g x ∈ R
theorem passed_sub {n : Nat} {l l' : List Int} (h : Passed n l) (hnd : l'.Nodup) (hs : l' ⊆ l) : Passed n l' := ⟨fun x hx => h.1 x (hs hx), hnd⟩
/-- A point outside of a closed list is led outside. -/
theorem closed_out {n : Nat} {xss : List (List Int)} {g R : List Int} (hsys : okSys n xss = true) (hg : g ∈ xss) (hR : Passed n R) (hc : Closed xss R) {x : Int} (h0 : 0 ≤ x) (h1 : x < (n : Int)) (hx : ¬ x ∈ R) : ¬ fz g x ∈ R := by
  intro hy
  have hok := ((sys_parts hsys).2.2.2 g hg)
  have hl : g.length = n := by omega
  have hnd : (fz g x :: R.map (fz g)).Nodup ∨ ∃ z ∈ R, fz g z = fz g x := by
    by_cases h : fz g x ∈ R.map (fz g)
    · obtain ⟨z, hz, he⟩ := List.mem_map.1 h
      exact .inr ⟨z, hz, he⟩
    · refine .inl (List.nodup_cons.2 ⟨h, ?_⟩)
      refine List.pairwise_map.2 ?_
      refine List.Pairwise.imp_of_mem ?_ hR.2
      intro a b ha hb hab he
      exact hab (fz_inj hl hok.2 (hR.1 a ha).1 (hR.1 a ha).2 (hR.1 b hb).1 (hR.1 b hb).2 he)
  rcases hnd with h | ⟨z, hz, he⟩
  · have hs : (fz g x :: R.map (fz g)) ⊆ R := by
      intro y hy'
      rcases List.mem_cons.1 hy' with rfl | h2
      · exact hy
      · obtain ⟨z, hz, rfl⟩ := List.mem_map.1 h2
        exact hc g hg z hz
    have := List.Nodup.length_le_of_subset h hs
    simp at this
    omega
  · have := fz_inj hl hok.2 (hR.1 z hz).1 (hR.1 z hz).2 h0 h1 he
    exact hx (this ▸ hz)
theorem ps_push {n : Nat} {R O : List Int} {y : Int} (h : Passed n (R ++ O)) (h0 : 0 ≤ y) (h1 : y < (n : Int)) (hn : ¬ y ∈ R ++ O) : Passed n (R ++ (O ++ [y])) := by
  obtain ⟨q, rfl⟩ := Int.eq_ofNat_of_zero_le h0
  rw [← List.append_assoc]
  exact passed_snoc h (by omega) hn
/-- With a closed list R aside, the search goes as without it. -/
theorem bfsG_aside {n : Nat} {xss : List (List Int)} {R : List Int} (hsys : okSys n xss = true) (hR : Passed n R) (hc : Closed xss R) {x : Int} (h0 : 0 ≤ x) (h1 : x < (n : Int)) (hx : ¬ x ∈ R) :
    ∀ (gs : List (List Int)), (∀ g ∈ gs, g ∈ xss) → ∀ (O : List Int), Passed n (R ++ O) → bfsG R x gs O = bfsG [] x gs O ∧ Passed n (R ++ bfsG R x gs O) ∧ O ⊆ bfsG R x gs O ∧ ∀ g ∈ gs, fz g x ∈ bfsG R x gs O
  | [], _, O, hp => ⟨rfl, hp, fun a h => h, by simp⟩
  | g :: gs, hgs, O, hp => by
    have hg := hgs g (by simp)
    have hi := sys_img hsys hg h0 h1
    have ho := closed_out hsys hg hR hc h0 h1 hx
    have e : genStep R x O g = genStep [] x O g := by
      unfold genStep
      have : (g.getD x.toNat 0 ∈ R ++ O) ↔ (g.getD x.toNat 0 ∈ [] ++ O) := by
        rw [List.nil_append, List.mem_append]
        exact ⟨fun h => h.resolve_left ho, .inr⟩
      simp only [this]
    have hmem : fz g x ∈ genStep R x O g ∧ O ⊆ genStep R x O g ∧ Passed n (R ++ genStep R x O g) := by
      unfold genStep
      split
      · rename_i h
        exact ⟨(List.mem_append.1 h).resolve_left ho, fun a h => h, hp⟩
      · rename_i h
        exact ⟨by simp [fz], fun a h => List.mem_append.2 (.inl h), ps_push hp hi.1 hi.2 h⟩
    obtain ⟨a1, a2, a3, a4⟩ := bfsG_aside hsys hR hc h0 h1 hx gs (fun g' h => hgs g' (List.mem_cons.2 (.inr h))) (genStep R x O g) hmem.2.2
    have f1 : bfsG R x (g :: gs) O = bfsG R x gs (genStep R x O g) := rfl
    have f2 : bfsG [] x (g :: gs) O = bfsG [] x gs (genStep [] x O g) := rfl
    rw [f1, f2, ← e]
    refine ⟨a1, a2, fun a h => a3 (hmem.2.1 h), fun g' h => ?_⟩
    rcases List.mem_cons.1 h with rfl | h
    · exact a3 hmem.1
    · exact a4 g' h
theorem genStep_pre (R : List Int) (x : Int) (O g : List Int) : O <+: genStep R x O g := by
  unfold genStep; split
  · exact List.prefix_refl _
  · exact List.prefix_append _ _
theorem bfsG_pre (R : List Int) (x : Int) : ∀ (gs : List (List Int)) (O : List Int), O <+: bfsG R x gs O
  | [], _ => List.prefix_refl _
  | g :: gs, O => (genStep_pre R x O g).trans (bfsG_pre R x gs (genStep R x O g))
theorem bfs_aside {n : Nat} {xss : List (List Int)} {R : List Int} (hsys : okSys n xss = true) (hR : Passed n R) (hc : Closed xss R) :
    ∀ (f : Nat) (O : List Int) (i : Nat), f = n - i → Passed n (R ++ O) → i ≤ O.length → (∀ k < i, ∀ z, O[k]? = some z → ∀ g ∈ xss, fz g z ∈ O) →
      bfs xss R f O i = bfs xss [] f O i ∧ Passed n (R ++ bfs xss R f O i) ∧ O <+: bfs xss R f O i ∧ Closed xss (bfs xss R f O i)
  | 0, O, i, hf, hp, hi, hcl => by
    refine ⟨rfl, hp, List.prefix_refl _, ?_⟩
    have hl := passed_len hp
    simp at hl
    intro g hg x hx
    have hx : x ∈ O := hx
    obtain ⟨k, hk, rfl⟩ := List.mem_iff_getElem.1 hx
    exact hcl k (by omega) _ (List.getElem?_eq_getElem hk) g hg
  | f + 1, O, i, hf, hp, hi, hcl => by
    cases hz : O[i]? with
    | none =>
      have e1 : bfs xss R (f + 1) O i = O := by rw [bfs, hz]
      have e2 : bfs xss [] (f + 1) O i = O := by rw [bfs, hz]
      rw [e1, e2]
      refine ⟨rfl, hp, List.prefix_refl _, ?_⟩
      have hl := List.getElem?_eq_none_iff.1 hz
      intro g hg x hx
      obtain ⟨k, hk, rfl⟩ := List.mem_iff_getElem.1 hx
      exact hcl k (by omega) _ (List.getElem?_eq_getElem hk) g hg
    | some x =>
      have e1 : bfs xss R (f + 1) O i = bfs xss R f (bfsG R x xss O) (i + 1) := by rw [bfs, hz]
      have e2 : bfs xss [] (f + 1) O i = bfs xss [] f (bfsG [] x xss O) (i + 1) := by rw [bfs, hz]
      have hxm : x ∈ O := List.mem_of_getElem? hz
      have hxr := hp.1 x (List.mem_append.2 (.inr hxm))
      have hxR : ¬ x ∈ R := fun h => (List.nodup_append.1 hp.2).2.2 x h x hxm rfl
      obtain ⟨a1, a2, a3, a4⟩ := bfsG_aside hsys hR hc hxr.1 hxr.2 hxR xss (fun g h => h) O hp
      have hpre := bfsG_pre R x xss O
      have hlt := (List.getElem?_eq_some_iff.1 hz).1
      have keep : ∀ k < O.length, (bfsG R x xss O)[k]? = O[k]? := fun k hk => by
        obtain ⟨t, ht⟩ := hpre
        rw [← ht, List.getElem?_append_left hk]
      obtain ⟨b1, b2, b3, b4⟩ := bfs_aside hsys hR hc f (bfsG R x xss O) (i + 1) (by omega) a2 (Nat.le_trans hlt hpre.length_le) (by
        intro k hk z hkz g hg
        rcases Nat.lt_succ_iff_lt_or_eq.1 hk with h | rfl
        · rw [keep k (by omega)] at hkz
          exact a3 (hcl k h z hkz g hg)
        · rw [keep k hlt, hz] at hkz
          injection hkz with hkz
          subst hkz
          exact a4 g hg)
      rw [e1, e2, ← a1]
      exact ⟨b1, b2, hpre.trans b3, b4⟩
def orbL (xss : List (List Int)) (n : Nat) (p : Int) : List Int := bfs xss [] n [p] 0
theorem passed_nil (n : Nat) : Passed n [] := ⟨by simp, by simp⟩
theorem closed_nil (xss : List (List Int)) : Closed xss [] := fun g _ x h => by simp at h
/-- The orbit of a point outside of a closed list. -/
theorem orb_aside {n p : Nat} {xss : List (List Int)} {R : List Int} (hsys : okSys n xss = true) (hR : Passed n R) (hc : Closed xss R) (hp : p < n) (hn : ¬ (p : Int) ∈ R) :
    bfs xss R n [(p : Int)] 0 = orbL xss n p ∧ Passed n (R ++ orbL xss n p) ∧ (p : Int) ∈ orbL xss n p ∧ Closed xss (R ++ orbL xss n p) := by
  obtain ⟨a1, a2, a3, a4⟩ := bfs_aside hsys hR hc n [(p : Int)] 0 rfl (passed_snoc hR hp hn) (by simp) (fun k hk => absurd hk (by omega))
  rw [a1] at a2 a3 a4
  refine ⟨a1, a2, a3.subset (by simp), ?_⟩
  intro g hg x hx
  rcases List.mem_append.1 hx with h | h
  · exact List.mem_append.2 (.inl (hc g hg x h))
  · exact List.mem_append.2 (.inr (a4 g hg x h))
theorem orb_passed {n p : Nat} {xss : List (List Int)} (hsys : okSys n xss = true) (hp : p < n) : Passed n (orbL xss n p) := by
  simpa using (orb_aside hsys (passed_nil n) (closed_nil xss) hp (by simp)).2.1
/-- The orbits of the points below k. -/
def orbsTo (xss : List (List Int)) (n : Nat) : Nat → List (List Int)
  | 0 => []
  | k + 1 => if (k : Int) ∈ (orbsTo xss n k).flatten then orbsTo xss n k else orbsTo xss n k ++ [orbL xss n k]
theorem orbsTo_facts {n : Nat} {xss : List (List Int)} (hsys : okSys n xss = true) : ∀ k, k ≤ n → Passed n (orbsTo xss n k).flatten ∧ Closed xss (orbsTo xss n k).flatten ∧ (orbsTo xss n k).length ≤ k ∧ ∀ p : Nat, p < k → (p : Int) ∈ (orbsTo xss n k).flatten
  | 0, _ => ⟨by simpa [orbsTo] using passed_nil n, by simpa [orbsTo] using closed_nil xss, by simp [orbsTo], fun p h => absurd h (by omega)⟩
  | k + 1, hk => by
    obtain ⟨a1, a2, a3, a4⟩ := orbsTo_facts hsys k (by omega)
    unfold orbsTo
    split
    · rename_i h
      refine ⟨a1, a2, by omega, fun p hp => ?_⟩
      rcases Nat.lt_succ_iff_lt_or_eq.1 hp with h1 | rfl
      · exact a4 p h1
      · exact h
    · rename_i h
      obtain ⟨b1, b2, b3, b4⟩ := orb_aside hsys a1 a2 (show k < n by omega) h
      rw [List.flatten_append]
      simp only [List.flatten_cons, List.flatten_nil, List.append_nil]
      refine ⟨b2, b4, by simp; omega, fun p hp => List.mem_append.2 ?_⟩
      rcases Nat.lt_succ_iff_lt_or_eq.1 hp with h1 | rfl
      · exact .inl (a4 p h1)
      · exact .inr b3
theorem orbsTo_in {xss : List (List Int)} {n k : Nat} (h : (k : Int) ∈ (orbsTo xss n k).flatten) : orbsTo xss n (k + 1) = orbsTo xss n k := by rw [orbsTo, if_pos h]
theorem orbsTo_out {xss : List (List Int)} {n k : Nat} (h : ¬ (k : Int) ∈ (orbsTo xss n k).flatten) : orbsTo xss n (k + 1) = orbsTo xss n k ++ [orbL xss n k] := by rw [orbsTo, if_neg h]
/-- The list has, at each point, the number of its orbit. -/
def LabOk (D : List Int) (orbs : List (List Int)) : Prop := ∀ (i : Nat) (o : List Int), orbs[i]? = some o → ∀ p : Nat, (p : Int) ∈ o → D[p]? = some (i : Int)
theorem labOk_nil (D : List Int) : LabOk D [] := fun i o h => by simp at h
/-- The points of vis have got the label m. -/
def NewOk (D vis : List Int) (m : Nat) : Prop := ∀ p : Nat, (p : Int) ∈ vis → D[p]? = some (m : Int)
theorem newOk_nil (D : List Int) (m : Nat) : NewOk D [] m := fun p h => by simp at h
theorem lab_set {D : List Int} {orbs : List (List Int)} {p m : Nat} (h : LabOk D orbs) (hp : ¬ (p : Int) ∈ orbs.flatten) : LabOk (D.set p (m : Int)) orbs := by
  intro i o ho q hq
  have hne : p ≠ q := by
    rintro rfl
    exact hp (List.mem_flatten.2 ⟨o, List.mem_of_getElem? ho, hq⟩)
  rw [List.getElem?_set_ne hne]
  exact h i o ho q hq
theorem new_set {D vis : List Int} {p m : Nat} (h : NewOk D vis m) (hp : p < D.length) : NewOk (D.set p (m : Int)) (vis ++ [(p : Int)]) m := by
  intro q hq
  by_cases e : p = q
  · subst e; rw [List.getElem?_set_self hp]
  · rw [List.getElem?_set_ne e]
    rcases List.mem_append.1 hq with h1 | h1
    · exact h q h1
    · simp at h1; omega
theorem lab_snoc {D o : List Int} {orbs : List (List Int)} (h : LabOk D orbs) (hn : NewOk D o orbs.length) : LabOk D (orbs ++ [o]) := by
  intro i o' ho p hp
  by_cases hi : i < orbs.length
  · rw [List.getElem?_append_left hi] at ho
    exact h i o' ho p hp
  · rw [List.getElem?_append_right (by omega)] at ho
    have : i - orbs.length = 0 := by have := (List.getElem?_eq_some_iff.1 ho).1; simp at this; omega
    rw [this] at ho
    simp at ho
    subst ho
    obtain rfl : i = orbs.length := by omega
    exact hn p hp
def labL (xss : List (List Int)) (n : Nat) : List Int := (List.range n).map fun (p : Nat) => (((orbsTo xss n n).findIdx fun o => decide ((p : Int) ∈ o) : Nat) : Int)
theorem labL_length (xss : List (List Int)) (n : Nat) : (labL xss n).length = n := by simp [labL]
theorem lab_all {D : List Int} {n : Nat} {xss : List (List Int)} (hsys : okSys n xss = true) (hD : D.length = n) (h : LabOk D (orbsTo xss n n)) : D = labL xss n := by
  apply List.ext_getElem?
  intro p
  by_cases hp : p < n
  · have hc := (orbsTo_facts hsys n (Nat.le_refl _)).2.2.2 p hp
    obtain ⟨o, ho, hpo⟩ := List.mem_flatten.1 hc
    have hlt : (orbsTo xss n n).findIdx (fun o => decide ((p : Int) ∈ o)) < (orbsTo xss n n).length := List.findIdx_lt_length_of_exists ⟨o, ho, by simpa using hpo⟩
    have hin : (p : Int) ∈ (orbsTo xss n n)[(orbsTo xss n n).findIdx (fun o => decide ((p : Int) ∈ o))] := by simpa using List.findIdx_getElem (w := hlt)
    rw [h _ _ (List.getElem?_eq_getElem hlt) p hin]
    simp [labL, hp]
  · rw [List.getElem?_eq_none (by omega), List.getElem?_eq_none (by rw [labL_length]; omega)]
/-- The points that are in no orbit yet have the label -1. -/
def Unlab (D : List Int) (n : Nat) (vis : List Int) : Prop := ∀ p : Nat, p < n → ¬ (p : Int) ∈ vis → D[p]? = some (-1)
theorem unlab_set {D vis : List Int} {n p : Nat} {m : Int} (h : Unlab D n vis) : Unlab (D.set p m) n (vis ++ [(p : Int)]) := by
  intro q hq hn
  have hne : p ≠ q := by rintro rfl; exact hn (by simp)
  rw [List.getElem?_set_ne hne]
  exact h q hq fun h1 => hn (List.mem_append.2 (.inl h1))
def labR (n : Int) (xss : List (List Int)) : List Int := if okSys n xss then labL xss n.toNat else []
theorem labR_len (n : Int) (xss : List (List Int)) : (labR n xss).length ≤ 400 := by
  unfold labR; split
  · rename_i h; rw [labL_length]; have := sys_parts h; omega
  · simp
def orbIn (n p : Int) : Bool := decide (0 ≤ p ∧ p < n)
def orbR (n : Int) (xss : List (List Int)) (p : Int) : List Int := if okSys n xss && orbIn n p then sortL (orbL xss n.toNat p) else []
def orbC (n : Int) (xss : List (List Int)) (p : Int) : Int := if okSys n xss then (if orbIn n p then 0 else 2) else 1
theorem orbR_len (n : Int) (xss : List (List Int)) (p : Int) : (orbR n xss p).length ≤ 400 := by
  unfold orbR; split
  · rename_i h
    simp only [Bool.and_eq_true] at h
    obtain ⟨h1, h2⟩ := h
    have h3 := sys_parts h1
    have h4 := of_decide_eq_true h2
    obtain ⟨q, rfl⟩ := Int.eq_ofNat_of_zero_le h4.1
    obtain ⟨m, rfl⟩ := Int.eq_ofNat_of_zero_le h3.1
    rw [sortL_length]
    have := passed_len (orb_passed h1 (show q < m by omega))
    simp
    omega
  · simp
end Go.Proofs.Ytmgoaabeopnopaa
/- What holds at the two loops that find an orbit: facts outside the walks. -/
namespace Go.Proofs.Ytmgoaabeopnopaa
open Go.RowKit

theorem turns_grown {w wr w4 : World} {lo hi : Nat} {row : Option Nat} (h : Turns lo hi w wr) (gr : wr.grownBy w4 row) (hr : ∀ b, row = some b → w.heap.size ≤ b ∨ (lo ≤ b ∧ b < hi)) : Turns lo hi w w4 :=
  ⟨gr.os.trans h.os, gr.tape.trans h.tape, gr.output.trans h.output, Nat.le_trans h.size gr.size, fun k hk hn => (gr.block k (Nat.lt_of_lt_of_le hk h.size) fun e => by have := hr k e.symm; omega).trans (h.block k hk hn)⟩
theorem turns_alloc {w wr : World} {lo hi : Nat} (h : Turns lo hi w wr) (o : Obj) : Turns lo hi w (wr.alloc o) := h.trans (Turns.of_below ((Below.refl _ _).alloc (Nat.le_refl _) o) (Nat.le_refl _))

theorem set_alloc (W : World) (cs : Array Value) (t : TypeId) (b p : Nat) (v : Value) (hb : b = W.heap.size) : (W.alloc (.cells cs t)).setCell ⟨b, p, none⟩ v = W.alloc (.cells (cs.setIfInBounds p v) t) := by
  subst hb
  unfold World.setCell World.alloc
  congr 1
  apply Array.ext
  · simp
  · intro i h1 h2
    simp only [Array.getElem_modify, Array.getElem_push]
    by_cases h : i < W.heap.size
    · rw [dif_pos h, dif_pos h, if_neg (by omega)]
    · rw [dif_neg h, dif_neg h, if_pos (by simp at h1; omega)]
      rfl

structure BSt (w0 w wr : World) (g base M n : Nat) (R O : List Int) (A : Option Addr) (m c : Nat) : Prop where
  own : wr.ownsRow w.heap.size 2 1 (.slice A m c) m (ints O)
  seen : wr.ownsRow base 4 1 (.slice (some ⟨g, 0, none⟩) M M) M (seenL M (R ++ O))
  ps : Passed n (R ++ O)
  tu : Turns g (g + 1) w wr
  b0 : Below w0.heap.size w0 w
  hg : w0.heap.size ≤ g
section
variable {w0 w wr w4 : World} {g base M n m c c4 q i : Nat} {R O : List Int} {A A4 : Option Addr}
theorem BSt.bel (h : BSt w0 w wr g base M n R O A m c) : Below w0.heap.size w0 wr := h.tu.below h.b0 h.b0.size h.hg
theorem BSt.len (h : BSt w0 w wr g base M n R O A m c) : O.length = m ∧ m ≤ n := by
  have h1 := h.own.1
  have h2 := passed_len h.ps
  simp at h1 h2
  omega
theorem BSt.push {o : Obj} (h : BSt w0 w wr g base M n R O A m c) (hq : q < n) (hn : ¬ (q : Int) ∈ R ++ O)
    (own4 : w4.ownsRow w.heap.size 2 1 (.slice A4 (m + 1) c4) (m + 1) (ints O ++ [.int .i64 q])) (gr : ((wr.setCell ⟨g, q, none⟩ (.bool true)).alloc o).grownBy w4 (Value.slice A m c).ownBlock) :
    BSt w0 w w4 g base M n R (O ++ [(q : Int)]) A4 (m + 1) c4 := by
  have hst := h.seen.stored q (.bool true)
  have ho := h.own.kept hst.2 (own_ne h.own h.seen (by decide))
  have h1 := hst.1
  rw [seenL_set, List.append_assoc] at h1
  refine ⟨by simpa using own4, (h1.alloc o).kept gr (own_ne (h1.alloc o) (ho.alloc o) (by decide)), ps_push h.ps (by omega) (by omega) hn, ?_, h.b0, h.hg⟩
  refine turns_grown (turns_alloc (turns_grown h.tu hst.2 fun b hb => ?_) o) gr fun b hb => .inl (h.own.lt b hb).1
  simp at hb
  omega
theorem BSt.mark (h : BSt w0 w wr g base M n R O A m c) (q : Nat) : (wr.setCell ⟨g, q, none⟩ (.bool true)).ownsRow w.heap.size 2 1 (.slice A m c) m (ints O) :=
  h.own.kept (h.seen.stored q (.bool true)).2 (own_ne h.own h.seen (by decide))
theorem BSt.drew (h : BSt w0 w wr g base M n R O A m c) (k : Nat) : BSt w0 w (wr.drewN k) g base M n R O A m c :=
  ⟨h.own, h.seen, h.ps, ⟨h.tu.os, h.tu.tape, h.tu.output, h.tu.size, h.tu.block⟩, h.b0, h.hg⟩
/-- The first point, and its mark. -/
theorem bst_start {p : Nat} (hs : w.ownsRow base 4 1 (.slice (some ⟨g, 0, none⟩) n n) n (seenL n R)) (b0 : Below w0.heap.size w0 w) (hg : w0.heap.size ≤ g) (hR : Passed n R) (hp : p < n) (hn : ¬ (p : Int) ∈ R) :
    BSt w0 w ((w.alloc (.cells #[.int .i64 p] 2)).setCell ⟨g, p, none⟩ (.bool true)) g base n n R [(p : Int)] (some ⟨w.heap.size, 0, none⟩) 1 1 := by
  have h1 := (hs.alloc (.cells #[.int .i64 p] 2)).stored p (.bool true)
  have h2 := World.ownsRow_lit (base := w.heap.size) (e := 2) (size := 1) w #[.int .i64 p] 1 (Nat.le_refl _) (by decide) (by simp)
  have h3 := h1.1
  rw [seenL_set] at h3
  refine ⟨by simpa using h2.kept h1.2 (own_ne h2 (hs.alloc _) (by decide)), h3, passed_snoc hR hp hn, ?_, b0, hg⟩
  exact turns_grown (turns_alloc (Turns.refl _ _ _) _) h1.2 fun b hb => .inr (by simp at hb; omega)
theorem bst_start0 {p : Nat} (hM : M ≤ 9223372036854775807) (hp : p < n) :
    BSt w w (((w.alloc (.cells #[.int .i64 p] 2)).alloc (.cells (madeCells #[.bool false] M) 4)).setCell ⟨w.heap.size + 1, p, none⟩ (.bool true)) (w.heap.size + 1) w.heap.size M n [] [(p : Int)] (some ⟨w.heap.size, 0, none⟩) 1 1 := by
  have h2 := World.ownsRow_lit (base := w.heap.size) (e := 2) (size := 1) w #[.int .i64 p] 1 (Nat.le_refl _) (by decide) (by simp)
  have h0 := seen_start (w.alloc (.cells #[.int .i64 p] 2)) M hM
  have hs : (w.alloc (Obj.cells #[.int .i64 p] 2)).heap.size = w.heap.size + 1 := by simp
  rw [hs] at h0
  have h0 := own_base h0 (Nat.le_succ w.heap.size)
  have h1 := h0.stored p (.bool true)
  have h3 := h1.1
  rw [seenL_set] at h3
  refine ⟨by simpa using (h2.alloc _).kept h1.2 (own_ne (h2.alloc _) h0 (by decide)), h3, passed_snoc (passed_nil n) hp (by simp), ?_, Below.refl _ _, by omega⟩
  exact turns_grown (turns_alloc (turns_alloc (Turns.refl _ _ _) _) _) h1.2 fun b hb => .inl (by simp at hb; omega)
end
end Go.Proofs.Ytmgoaabeopnopaa
namespace Go.Proofs.Ytmgoaabeopnopaa
open Go.RowKit

set_option maxHeartbeats 3200000 in
set_option maxRecDepth 8000 in
theorem sorb_any {A : Option Addr} {c N n p : Nat} {xss : List (List Int)} (w : World) (hx : xss.length = N) (ha : RdSS w A xss) (hN : N ≤ 1048576) (hsys : okSys n xss = true) (hp : p < n) :
    Calls Try.prog 143 #[.slice A N c, .int .i64 p] w (Ret1 w (orbL xss n p)) := by
  have HX := Lib.hid hx
  have HA := Lib.hid ha
  have HS := Lib.hid hsys
  have hn4 := (sys_parts hsys).2.1
  have TT := Lib.hid (show bfs xss [] (n - 0) [(p : Int)] 0 = orbL xss n p from rfl)
  clear hx ha hsys
  by_cases h0 : N = 0
  · subst h0
    have st0 := bst_start0 (w := w) (M := (p + 1)) (by omega) hp
    have hs1 : (w.alloc (Obj.cells #[.int .i64 p] 2)).heap.size = w.heap.size + 1 := by simp
    rw [set_alloc _ _ _ _ _ _ hs1.symm] at st0
    have ST := Lib.hid st0
    clear st0
    have hmk := run_make_row' (P := Try.prog) 150 4 (.bool false) 1 Try.underlying150 Try.infoB rfl .i64 .i64 (p + 1) (by omega) (by omega)
    rw [Int.natCast_add, Int.natCast_one] at hmk
    have hs0 := seen_start (w.alloc (.cells #[.int .i64 p] 2)) (p + 1) (by omega)
    rw [hs1] at hs0
    have hcs := own_cell hs0 (seenL_at (show p < (p + 1) by omega))
    rw [decide_eq_false (by simp)] at hcs
    have hfr := hs0.frozenAt p
    clear hs0
    go_enter Try.func143, Try.ntmps143
    go_wp2
    clear hmk hcs hfr
    go_loopw [5, 8] (fun v q wr => ∃ (i m c' : Nat) (A' : Option Addr) (O : List Int), q = .int .i64 i ∧ v = .slice A' m c' ∧ i ≤ m ∧ bfs xss [] (n - i) O i = orbL xss n p ∧ BSt w w wr (w.heap.size + 1) w.heap.size (p + 1) n [] O A' m c') (fun _ q _ => n - (intOf q).toNat)
    case atStart => exact ⟨0, 1, 1, _, [(p : Int)], rfl, rfl, by omega, TT.out, ST.out⟩
    case round =>
      obtain ⟨i, m, c', A', O, rfl, rfl, him, ht, st⟩ := hrel
      have hlen := st.len
      have S := Lib.hid st
      have HT := Lib.hid ht
      clear st ht
      by_cases hlt : i < m
      · obtain ⟨x, hxx⟩ : ∃ x, O[i]? = some x := ⟨_, List.getElem?_eq_getElem (by omega)⟩
        have HT2 := Lib.hid ((bfs_go (xss := xss) (R := []) (n := n) hxx (by omega)).symm.trans HT.out)
        have HXX := Lib.hid hxx
        clear hxx
        go_wp2
        go_loopw [5, 9] (fun v q wi => ∃ (j m c' : Nat) (A' : Option Addr) (O : List Int), q = .int .i64 j ∧ v = .slice A' m c' ∧ j ≤ 0 ∧ O[i]? = some x ∧ bfs xss [] (n - (i + 1)) (bfsG [] x (xss.drop j) O) (i + 1) = orbL xss n p ∧ BSt w w wi (w.heap.size + 1) w.heap.size (p + 1) n [] O A' m c') (fun _ q _ => 0 - (intOf q).toNat)
        case atStart => exact ⟨0, m, c', A', O, rfl, rfl, Nat.zero_le _, HXX.out, HT2.out, S.out⟩
        case round =>
          obtain ⟨j, m2, c2, A2, O2, rfl, rfl, hj, hxx2, ht2, st2⟩ := hrel
          have hlen2 := st2.len
          have hi2 := (List.getElem?_eq_some_iff.1 hxx2).1
          have S2 := Lib.hid st2
          have HT3 := Lib.hid ht2
          have HXX2 := Lib.hid hxx2
          clear st2 ht2 hxx2
          by_cases hjl : j < 0
          · exact absurd hjl (by omega)
          · have h := HT3.out
            rw [bfsG_end (by rw [HX.out]; omega)] at h
            have H5 := Lib.hid h
            clear h
            go_wp2
            go_roundw
            case rel => exact ⟨i + 1, m2, c2, A2, O2, by go_num, rfl, by omega, H5.out, S2.out⟩
            case measure => simp [intOf]; omega
      · have h := HT.out
        rw [bfs_done (by omega)] at h
        obtain rfl : O = orbL xss n p := h
        obtain rfl : (orbL xss n p).length = m := hlen.1
        go_wp2
        go_ret
        exact ⟨A', c', rfl, S.out.own, S.out.bel⟩
  · skip
    have st0 := bst_start0 (w := w) (M := (n + p + 1)) (by omega) hp
    have hs1 : (w.alloc (Obj.cells #[.int .i64 p] 2)).heap.size = w.heap.size + 1 := by simp
    rw [set_alloc _ _ _ _ _ _ hs1.symm] at st0
    have ST := Lib.hid st0
    clear st0
    have hmk := run_make_row' (P := Try.prog) 150 4 (.bool false) 1 Try.underlying150 Try.infoB rfl .i64 .i64 (n + p + 1) (by omega) (by omega)
    rw [Int.natCast_add, Int.natCast_add, Int.natCast_one] at hmk
    have hs0 := seen_start (w.alloc (.cells #[.int .i64 p] 2)) (n + p + 1) (by omega)
    rw [hs1] at hs0
    have hcs := own_cell hs0 (seenL_at (show p < (n + p + 1) by omega))
    rw [decide_eq_false (by simp)] at hcs
    have hfr := hs0.frozenAt p
    clear hs0
    obtain ⟨b0, o0, A0, c0, g0, rfl, hg0, hc0, hrd0, hms0⟩ := HA.out.row (k := 0) (by rw [HX.out]; omega)
    have hlg0 := sys_len HS.out hg0
    obtain ⟨l0, hl0⟩ : ∃ l, g0.length = l := ⟨_, rfl⟩
    rw [hl0] at hc0 hms0 hlg0
    obtain rfl : n = l0 := by omega
    clear hg0 hrd0 hl0 hlg0
    rw [Nat.add_zero] at hc0
    have hc0 := (((Below.refl w.heap.size w).alloc (Nat.le_refl _) (.cells #[.int .i64 p] 2)).cell (p := ⟨b0, o0, none⟩) (World.block_lt_of_cell? w _ hc0)).trans hc0
    go_enter Try.func143, Try.ntmps143
    go_wp2
    rw [decide_eq_true (show 0 < N by omega)]
    clear hmk hcs hfr
    go_loopw [5, 8] (fun v q wr => ∃ (i m c' : Nat) (A' : Option Addr) (O : List Int), q = .int .i64 i ∧ v = .slice A' m c' ∧ i ≤ m ∧ bfs xss [] (n - i) O i = orbL xss n p ∧ BSt w w wr (w.heap.size + 1) w.heap.size (n + p + 1) n [] O A' m c') (fun _ q _ => n - (intOf q).toNat)
    case atStart => exact ⟨0, 1, 1, _, [(p : Int)], rfl, rfl, by omega, TT.out, ST.out⟩
    case round =>
      obtain ⟨i, m, c', A', O, rfl, rfl, him, ht, st⟩ := hrel
      have hlen := st.len
      have S := Lib.hid st
      have HT := Lib.hid ht
      clear st ht
      by_cases hlt : i < m
      · obtain ⟨x, hxx⟩ : ∃ x, O[i]? = some x := ⟨_, List.getElem?_eq_getElem (by omega)⟩
        have HT2 := Lib.hid ((bfs_go (xss := xss) (R := []) (n := n) hxx (by omega)).symm.trans HT.out)
        have HXX := Lib.hid hxx
        clear hxx
        go_wp2
        go_loopw [5, 9] (fun v q wi => ∃ (j m c' : Nat) (A' : Option Addr) (O : List Int), q = .int .i64 j ∧ v = .slice A' m c' ∧ j ≤ N ∧ O[i]? = some x ∧ bfs xss [] (n - (i + 1)) (bfsG [] x (xss.drop j) O) (i + 1) = orbL xss n p ∧ BSt w w wi (w.heap.size + 1) w.heap.size (n + p + 1) n [] O A' m c') (fun _ q _ => N - (intOf q).toNat)
        case atStart => exact ⟨0, m, c', A', O, rfl, rfl, Nat.zero_le _, HXX.out, HT2.out, S.out⟩
        case round =>
          obtain ⟨j, m2, c2, A2, O2, rfl, rfl, hj, hxx2, ht2, st2⟩ := hrel
          have hlen2 := st2.len
          have hi2 := (List.getElem?_eq_some_iff.1 hxx2).1
          have S2 := Lib.hid st2
          have HT3 := Lib.hid ht2
          have HXX2 := Lib.hid hxx2
          clear st2 ht2 hxx2
          by_cases hjl : j < N
          · obtain ⟨b, o, A3, c3, gg, he, hg, hc, hrd, hms⟩ := (HA.out.keep S2.out.bel).row (k := j) (by rw [HX.out]; exact hjl)
            obtain ⟨rfl, rfl⟩ : b0 = b ∧ o0 = o := by simpa using he
            clear he
            have hlg := sys_len HS.out hg
            obtain ⟨l, hl⟩ : ∃ l, gg.length = l := ⟨_, rfl⟩
            rw [hl] at hc hms hlg
            have hxr := S2.out.ps.1 x (List.mem_append.2 (.inr (List.mem_of_getElem? HXX2.out)))
            obtain ⟨xp, rfl⟩ := Int.eq_ofNat_of_zero_le hxr.1
            obtain ⟨b3, o3, y, rfl, hgy, hcy⟩ := hrd.int (k := xp) (by rw [hl]; omega)
            obtain ⟨q, rfl, hq0⟩ := sys_at HS.out hg hgy
            obtain ⟨b4, o4, x4, rfl, hgx4, hcx4⟩ := (own_rd S2.out.own).int (k := i) hi2
            rw [HXX2.out] at hgx4
            injection hgx4 with hgx4
            subst hgx4
            have hqn : q < n := by omega
            go_wp2
            go_quiet (fail)
            have S3 := Lib.hid (S2.out.drew nq)
            have hcs := own_cell S3.out.seen (seenL_at (show q < (n + p + 1) by omega))
            have hfr := S3.out.seen.frozenAt q
            have HT4 := Lib.hid ((bfsG_go (xss := xss) (R := []) (O := O2) (x := (xp : Int)) (y := (q : Int)) hg (by simp [hgy])) ▸ HT3.out)
            clear hg hgy hrd
            by_cases hin : (q : Int) ∈ [] ++ O2
            · rw [decide_eq_true hin] at hcs
              have h := HT4.out
              rw [if_pos hin] at h
              have H5 := Lib.hid h
              clear h hin
              go_wp2
              go_roundw
              case rel => exact ⟨j + 1, m2, c2, _, O2, by go_num, rfl, by omega, HXX2.out, H5.out, S3.out⟩
              case measure => simp [intOf]; omega
            · rw [decide_eq_false hin] at hcs
              have h := HT4.out
              rw [if_neg hin] at h
              have H5 := Lib.hid h
              have NI := Lib.hid hin
              have hx6 := Lib.hid (show (O2 ++ [(q : Int)])[i]? = some (xp : Int) by rw [List.getElem?_append_left hi2]; exact HXX2.out)
              have OM := Lib.hid (S3.out.mark q)
              have hbc : w.heap.size ≤ ((wr.drewN nq).setCell ⟨(w.heap.size + 1), q, none⟩ (.bool true)).heap.size := by have := S3.out.tu.size; simpa using this
              clear h hin
              go_wp2_with (at_builtin; refine wpList_push2 _ rfl _ _ 36 2 rfl Try.underlying36 (.int .i64 0) 8 Try.info2 rfl w.heap.size _ _ _ rfl OM.out _ rfl ?hx (by omega) (by omega) hbc ?_)
              case hx => simp [Act.eval]
              intro A5 c5 w5 own5 gr5
              have S6 := Lib.hid (S3.out.push hqn NI.out own5 gr5)
              clear own5 gr5
              go_wp2
              go_roundw
              case rel => exact ⟨j + 1, m2 + 1, c5, A5, O2 ++ [(q : Int)], by go_num, rfl, by omega, hx6.out, H5.out, S6.out⟩
              case measure => simp [intOf]; omega
          · have h := HT3.out
            rw [bfsG_end (by rw [HX.out]; omega)] at h
            have H5 := Lib.hid h
            clear h
            go_wp2
            go_roundw
            case rel => exact ⟨i + 1, m2, c2, A2, O2, by go_num, rfl, by omega, H5.out, S2.out⟩
            case measure => simp [intOf]; omega
      · have h := HT.out
        rw [bfs_done (by omega)] at h
        obtain rfl : O = orbL xss n p := h
        obtain rfl : (orbL xss n p).length = m := hlen.1
        go_wp2
        go_ret
        exact ⟨A', c', rfl, S.out.own, S.out.bel⟩
end Go.Proofs.Ytmgoaabeopnopaa
namespace Go.Proofs.Ytmgoaabeopnopaa
open Go.RowKit

set_option maxHeartbeats 3200000 in
theorem iorb_any {A : Option Addr} {c N n p g base : Nat} {xss : List (List Int)} {R : List Int} (w0 w : World) (hx : xss.length = N) (ha : RdSS w0 A xss) (hb0 : Below w0.heap.size w0 w) (hg0 : w0.heap.size ≤ g) (hN : N ≤ 1048576) (hsys : okSys n xss = true) (hp : p < n)
    (hR : Passed n R) (hcl : Closed xss R) (hnp : ¬ (p : Int) ∈ R) (hs : w.ownsRow base 4 1 (.slice (some ⟨g, 0, none⟩) n n) n (seenL n R)) :
    Calls Try.prog 173 #[.slice A N c, .int .i64 p, .slice (some ⟨g, 0, none⟩) n n] w fun e w' => ∃ A' c', e = .returned (.slice A' (orbL xss n p).length c') ∧ w'.ownsRow w.heap.size 2 1 (.slice A' (orbL xss n p).length c') (orbL xss n p).length (ints (orbL xss n p)) ∧
      w'.ownsRow base 4 1 (.slice (some ⟨g, 0, none⟩) n n) n (seenL n (R ++ orbL xss n p)) ∧ Turns g (g + 1) w w' := by
  have HX := Lib.hid hx
  have HA := Lib.hid ha
  have HS := Lib.hid hsys
  have hn4 := (sys_parts hsys).2.1
  have TT := Lib.hid (show bfs xss R (n - 0) [(p : Int)] 0 = orbL xss n p from (orb_aside hsys hR hcl hp hnp).1)
  have ST := Lib.hid (bst_start hs hb0 hg0 hR hp hnp)
  have hs1 := hs.alloc (.cells #[.int .i64 p] 2)
  have hcs := own_cell hs1 (seenL_at hp)
  rw [decide_eq_false hnp] at hcs
  have hfr := hs1.frozenAt p
  clear hx ha hsys hs hs1 hb0
  go_enter Try.func173, Try.ntmps173
  go_wp2
  clear hcs hfr
  go_loopw [7, 8] (fun v q wr => ∃ (i m c' : Nat) (A' : Option Addr) (O : List Int), q = .int .i64 i ∧ v = .slice A' m c' ∧ i ≤ m ∧ bfs xss R (n - i) O i = orbL xss n p ∧ BSt w0 w wr g base n n R O A' m c') (fun _ q _ => n - (intOf q).toNat)
  case atStart => exact ⟨0, 1, 1, _, [(p : Int)], rfl, rfl, by omega, TT.out, ST.out⟩
  case round =>
    obtain ⟨i, m, c', A', O, rfl, rfl, him, ht, st⟩ := hrel
    have hlen := st.len
    have S := Lib.hid st
    have HT := Lib.hid ht
    clear st ht
    by_cases hlt : i < m
    · obtain ⟨x, hxx⟩ : ∃ x, O[i]? = some x := ⟨_, List.getElem?_eq_getElem (by omega)⟩
      have HT2 := Lib.hid ((bfs_go (xss := xss) (R := R) (n := n) hxx (by omega)).symm.trans HT.out)
      have HXX := Lib.hid hxx
      clear hxx
      go_wp2
      go_loopw [7, 25] (fun v q wi => ∃ (j m c' : Nat) (A' : Option Addr) (O : List Int), q = .int .i64 j ∧ v = .slice A' m c' ∧ j ≤ N ∧ O[i]? = some x ∧ bfs xss R (n - (i + 1)) (bfsG R x (xss.drop j) O) (i + 1) = orbL xss n p ∧ BSt w0 w wi g base n n R O A' m c') (fun _ q _ => N - (intOf q).toNat)
      case atStart => exact ⟨0, m, c', A', O, rfl, rfl, Nat.zero_le _, HXX.out, HT2.out, S.out⟩
      case round =>
        obtain ⟨j, m2, c2, A2, O2, rfl, rfl, hj, hxx2, ht2, st2⟩ := hrel
        have hlen2 := st2.len
        have hi2 := (List.getElem?_eq_some_iff.1 hxx2).1
        have S2 := Lib.hid st2
        have HT3 := Lib.hid ht2
        have HXX2 := Lib.hid hxx2
        clear st2 ht2 hxx2
        by_cases hjl : j < N
        · obtain ⟨b, o, A3, c3, gg, rfl, hg, hc, hrd, hms⟩ := (HA.out.keep S2.out.bel).row (k := j) (by rw [HX.out]; exact hjl)
          have hlg := sys_len HS.out hg
          obtain ⟨l, hl⟩ : ∃ l, gg.length = l := ⟨_, rfl⟩
          rw [hl] at hc hms hlg
          have hxr := S2.out.ps.1 x (List.mem_append.2 (.inr (List.mem_of_getElem? HXX2.out)))
          obtain ⟨xp, rfl⟩ := Int.eq_ofNat_of_zero_le hxr.1
          obtain ⟨b3, o3, y, rfl, hgy, hcy⟩ := hrd.int (k := xp) (by rw [hl]; omega)
          obtain ⟨q, rfl, hq0⟩ := sys_at HS.out hg hgy
          obtain ⟨b4, o4, x4, rfl, hgx4, hcx4⟩ := (own_rd S2.out.own).int (k := i) hi2
          rw [HXX2.out] at hgx4
          injection hgx4 with hgx4
          subst hgx4
          have hqn : q < n := by omega
          skip
          have hcs := own_cell S2.out.seen (seenL_at (show q < n by omega))
          have hfr := S2.out.seen.frozenAt q
          have HT4 := Lib.hid ((bfsG_go (xss := xss) (R := R) (O := O2) (x := (xp : Int)) (y := (q : Int)) hg (by simp [hgy])) ▸ HT3.out)
          clear hg hgy hrd
          by_cases hin : (q : Int) ∈ R ++ O2
          · rw [decide_eq_true hin] at hcs
            have h := HT4.out
            rw [if_pos hin] at h
            have H5 := Lib.hid h
            clear h hin
            go_wp2
            go_roundw
            case rel => exact ⟨j + 1, m2, c2, _, O2, by go_num, rfl, by omega, HXX2.out, H5.out, S2.out⟩
            case measure => simp [intOf]; omega
          · rw [decide_eq_false hin] at hcs
            have h := HT4.out
            rw [if_neg hin] at h
            have H5 := Lib.hid h
            have NI := Lib.hid hin
            have hx6 := Lib.hid (show (O2 ++ [(q : Int)])[i]? = some (xp : Int) by rw [List.getElem?_append_left hi2]; exact HXX2.out)
            have OM := Lib.hid (S2.out.mark q)
            have hbc : w.heap.size ≤ (wr.setCell ⟨g, q, none⟩ (.bool true)).heap.size := by have := S2.out.tu.size; simpa using this
            clear h hin
            go_wp2_with (at_builtin; refine wpList_push2 _ rfl _ _ 36 2 rfl Try.underlying36 (.int .i64 0) 8 Try.info2 rfl w.heap.size _ _ _ rfl OM.out _ rfl ?hx (by omega) (by omega) hbc ?_)
            case hx => simp [Act.eval]
            intro A5 c5 w5 own5 gr5
            have S6 := Lib.hid (S2.out.push hqn NI.out own5 gr5)
            clear own5 gr5
            go_wp2
            go_roundw
            case rel => exact ⟨j + 1, m2 + 1, c5, A5, O2 ++ [(q : Int)], by go_num, rfl, by omega, hx6.out, H5.out, S6.out⟩
            case measure => simp [intOf]; omega
        · have h := HT3.out
          rw [bfsG_end (by rw [HX.out]; omega)] at h
          have H5 := Lib.hid h
          clear h
          go_wp2
          go_roundw
          case rel => exact ⟨i + 1, m2, c2, A2, O2, by go_num, rfl, by omega, H5.out, S2.out⟩
          case measure => simp [intOf]; omega
    · have h := HT.out
      rw [bfs_done (by omega)] at h
      obtain rfl : O = orbL xss n p := h
      obtain rfl : (orbL xss n p).length = m := hlen.1
      go_wp2
      go_ret
      exact ⟨A', c', rfl, S.out.own, S.out.seen, S.out.tu⟩
end Go.Proofs.Ytmgoaabeopnopaa
namespace Go.Proofs.Ytmgoaabeopnopaa
open Go.RowKit

end Go.Proofs.Ytmgoaabeopnopaa
namespace Go.Proofs.Ytmgoaabeopnopaa
open Go.RowKit

def fillL (n : Nat) : List Int := List.replicate n (-1)
theorem unlab_fill (n : Nat) : Unlab (fillL n) n [] := fun p hp _ => by simp [fillL, hp]
/-- The labels of the spec's walk: labelled points are those in orbits. -/
structure LSt (xss : List (List Int)) (n k : Nat) (D : List Int) (cnt : Nat) : Prop where
  lab : LabOk D (orbsTo xss n k)
  un : Unlab D n (orbsTo xss n k).flatten
  cn : cnt = (orbsTo xss n k).length
  len : D.length = n
theorem lst_at {xss : List (List Int)} {n k : Nat} {D : List Int} {cnt : Nat} (h : LSt xss n k D cnt) (hk : k < n) :
    ∃ v : Int, D[k]? = some v ∧ (((k : Int) ∈ (orbsTo xss n k).flatten ∧ 0 ≤ v) ∨ (¬ (k : Int) ∈ (orbsTo xss n k).flatten ∧ v < 0)) := by
  by_cases hm : (k : Int) ∈ (orbsTo xss n k).flatten
  · obtain ⟨o, ho, hko⟩ := List.mem_flatten.1 hm
    obtain ⟨i, hi, rfl⟩ := List.mem_iff_getElem.1 ho
    exact ⟨_, h.lab i _ (List.getElem?_eq_getElem hi) k hko, .inl ⟨hm, by omega⟩⟩
  · exact ⟨-1, h.un k hk hm, .inr ⟨hm, by omega⟩⟩
/-- Under way in one orbit. -/
structure LIn (xss : List (List Int)) (n k j : Nat) (D : List Int) : Prop where
  lab : LabOk D (orbsTo xss n k)
  un : Unlab D n ((orbsTo xss n k).flatten ++ (orbL xss n k).take j)
  new : NewOk D ((orbL xss n k).take j) (orbsTo xss n k).length
  len : D.length = n
theorem lin_start {xss : List (List Int)} {n k : Nat} {D : List Int} {cnt : Nat} (h : LSt xss n k D cnt) : LIn xss n k 0 D := ⟨h.lab, by simpa using h.un, by simpa using newOk_nil _ _, h.len⟩
theorem lin_step {xss : List (List Int)} {n k j p : Nat} {D : List Int} (h : LIn xss n k j D) (hps : Passed n ((orbsTo xss n k).flatten ++ orbL xss n k)) (hp : (orbL xss n k)[j]? = some (p : Int)) (hpn : p < n) :
    LIn xss n k (j + 1) (D.set p ((orbsTo xss n k).length : Int)) := by
  have hm := List.mem_of_getElem? hp
  have hno : ¬ (p : Int) ∈ (orbsTo xss n k).flatten := fun h1 => (List.nodup_append.1 hps.2).2.2 _ h1 _ hm rfl
  refine ⟨lab_set h.lab hno, ?_, ?_, by simp [h.len]⟩
  · rw [take_succ_of hp, ← List.append_assoc]; exact unlab_set h.un
  · rw [take_succ_of hp]; exact new_set h.new (by rw [h.len]; exact hpn)
theorem lin_end {xss : List (List Int)} {n k j : Nat} {D : List Int} (h : LIn xss n k j D) (hj : (orbL xss n k).length ≤ j) (hk : ¬ (k : Int) ∈ (orbsTo xss n k).flatten) : LSt xss n (k + 1) D ((orbsTo xss n k).length + 1) := by
  have e := List.take_of_length_le hj
  obtain ⟨h1, h2, h3, h4⟩ := h
  rw [e] at h2 h3
  refine ⟨by rw [orbsTo_out hk]; exact lab_snoc h1 h3, ?_, by rw [orbsTo_out hk]; simp, h4⟩
  rw [orbsTo_out hk, List.flatten_append]
  simpa using h2
theorem lst_skip {xss : List (List Int)} {n k : Nat} {D : List Int} {cnt : Nat} (h : LSt xss n k D cnt) (hk : (k : Int) ∈ (orbsTo xss n k).flatten) : LSt xss n (k + 1) D cnt := by
  obtain ⟨h1, h2, h3, h4⟩ := h
  rw [← orbsTo_in hk] at h1 h2 h3
  exact ⟨h1, h2, h3, h4⟩
theorem orb_at {xss : List (List Int)} {n k j : Nat} (hsys : okSys n xss = true) (hk : k < n) (hj : j < (orbL xss n k).length) : ∃ p : Nat, (orbL xss n k)[j]? = some (p : Int) ∧ p < n := by
  have h1 := List.getElem?_eq_getElem hj
  have h2 := (orb_passed hsys hk).1 _ (List.mem_of_getElem? h1)
  obtain ⟨p, hp⟩ := Int.eq_ofNat_of_zero_le h2.1
  exact ⟨p, by rw [h1, hp], by omega⟩
theorem orbs_cnt {xss : List (List Int)} {n k : Nat} (hsys : okSys n xss = true) (hk : k ≤ n) : (orbsTo xss n k).length ≤ n := Nat.le_trans (orbsTo_facts hsys k hk).2.2.1 hk

set_option maxHeartbeats 3200000 in
theorem sorbs_any {A : Option Addr} {c N n : Nat} {xss : List (List Int)} (w : World) (hx : xss.length = N) (ha : RdSS w A xss) (hN : N ≤ 1048576) (hsys : okSys n xss = true) :
    Calls Try.prog 86 #[.int .i64 n, .slice A N c] w (RetN w (labL xss n) n) := by
  have HX := Lib.hid hx
  have HA := Lib.hid ha
  have HS := Lib.hid hsys
  have hn4 := (sys_parts hsys).2.1
  clear hx ha hsys
  go_enter Try.func86, Try.ntmps86
  go_wp2
  go_loopw [5, 6] (fun v i wr => ∃ k : Nat, k ≤ n ∧ i = .int .i64 k ∧ ∃ A' c', v = .slice A' k c' ∧ wr.ownsRow w.heap.size 2 1 (.slice A' k c') k (ints (fillL k)) ∧ Below w.heap.size w wr) (fun _ i _ => n - (intOf i).toNat)
  case atStart => exact ⟨0, Nat.zero_le _, rfl, _, _, rfl, by simpa [fillL] using World.ownsRow_made (base := w.heap.size) (e := 2) (size := 1) w #[] 0 (Nat.le_refl _) (Nat.zero_le _) (by simp), (Below.refl _ _).alloc (Nat.le_refl _) _⟩
  case round =>
    obtain ⟨k, hk, rfl, A', c', rfl, own, bel⟩ := hrel
    have OWN := Lib.hid own
    have BEL := Lib.hid bel
    have hsz := bel.size
    clear own bel
    by_cases hlt : k < n
    · go_wp2_with (at_builtin; refine wpList_push _ rfl _ _ 36 2 rfl Try.underlying36 (.int .i64 0) 8 Try.info2 rfl w.heap.size _ _ _ rfl OWN.out _ rfl rfl (by omega) (by omega) (by omega) ?_)
      intro A3 c3 w3 own3 bel3 _
      have OWN3 := Lib.hid own3
      have BEL3 := Lib.hid bel3
      clear own3 bel3
      go_wp2
      go_roundw
      case rel => exact ⟨k + 1, by omega, by go_num, A3, c3, rfl, by unfold fillL; rw [List.replicate_succ']; simpa [fillL] using OWN3.out, BEL.out.trans BEL3.out⟩
      case measure => simp [intOf]; omega
    · obtain rfl : k = n := by omega
      have ST := Lib.hid (show LSt xss k 0 (fillL k) 0 from ⟨by simpa [orbsTo] using labOk_nil _, by simpa [orbsTo] using unlab_fill k, by simp [orbsTo], by simp [fillL]⟩)
      go_wp2
      clear hk hlt hsz
      obtain ⟨w2, rfl⟩ : ∃ w2 : World, w2 = wr := ⟨_, rfl⟩
      go_loopw [7, 8] (fun v q wr => ∃ (i cnt : Nat) (D : List Int), i ≤ k ∧ q = .int .i64 i ∧ v = .int .i64 cnt ∧ wr.ownsRow w.heap.size 2 1 (.slice A' k c') k (ints D) ∧ Below w.heap.size w wr ∧ LSt xss k i D cnt) (fun _ q _ => k - (intOf q).toNat)
      case atStart => exact ⟨0, 0, _, Nat.zero_le _, rfl, rfl, OWN.out, BEL.out, ST.out⟩
      case round =>
        obtain ⟨i, cnt, D, hi, rfl, rfl, own, bel, st⟩ := hrel
        have OWN2 := Lib.hid own
        have BEL2 := Lib.hid bel
        have S := Lib.hid st
        clear own bel st ST
        by_cases hlt : i < k
        · obtain ⟨v, hv, hvm⟩ := lst_at S.out hlt
          obtain ⟨g, rfl⟩ := own_shape OWN2.out (by omega)
          have hcell := own_cell OWN2.out (show (ints D)[i]? = some (.int .i64 v) by simp [hv])
          rcases hvm with ⟨hm, hv0⟩ | ⟨hm, hv0⟩
          · have S2 := Lib.hid (lst_skip S.out hm)
            clear hm hv
            go_wp2
            go_roundw
            case rel => exact ⟨i + 1, cnt, D, by omega, by go_num, rfl, OWN2.out, BEL2.out, S2.out⟩
            case measure => simp [intOf]; omega
          · have HM := Lib.hid hm
            have hps := (orb_aside HS.out (orbsTo_facts HS.out i (by omega)).1 (orbsTo_facts HS.out i (by omega)).2.1 hlt hm).2.1
            have HPS := Lib.hid hps
            have hol := passed_len (orb_passed HS.out hlt)
            obtain ⟨m, hml⟩ : ∃ m, (orbL xss k i).length = m := ⟨_, rfl⟩
            have HML := Lib.hid hml
            rw [hml] at hol
            have hcn := S.out.cn
            have hcb := orbs_cnt HS.out hi
            rw [← hcn] at hcb
            have HCN := Lib.hid hcn
            clear hm hv hps hml hcn
            go_wp2_with fail
            refine (sorb_any wr HX.out (HA.out.keep BEL2.out) hN HS.out hlt).mono ?_
            rintro e w3 ⟨A3, c3, rfl, own3, bel3⟩
            rw [HML.out] at own3 ⊢
            have OWN3 := Lib.hid own3
            have IN3 := Lib.hid (own_in own3)
            have OWNB := Lib.hid (own_below OWN2.out bel3 (Nat.le_refl _))
            have INB := Lib.hid (inB_wide (own_in OWN2.out) (Nat.le_refl _) (Nat.le_refl _))
            have BEL3 := Lib.hid (BEL2.out.trans (bel3.mono BEL2.out.size))
            have LI := Lib.hid (lin_start S.out)
            have hsz3 := bel3.size
            clear own3 bel3
            have hglo := (OWN2.out.lt g rfl).1
            obtain ⟨wo, rfl⟩ : ∃ wo : World, wo = wr := ⟨_, rfl⟩
            go_wp2
            go_loopw [10] (fun q wi => ∃ (j : Nat) (D : List Int), j ≤ m ∧ q = .int .i64 j ∧ wi.ownsRow w.heap.size 2 1 (.slice (some ⟨g, 0, none⟩) k c') k (ints D) ∧ wi.ownsRow wo.heap.size 2 1 (.slice A3 m c3) m (ints (orbL xss k i)) ∧ Below w.heap.size w wi ∧ LIn xss k i j D) (fun q _ => m - (intOf q).toNat)
            case atStart => exact ⟨0, D, Nat.zero_le _, rfl, OWNB.out, OWN3.out, BEL3.out, LI.out⟩
            case round =>
              obtain ⟨j, D2, hj, rfl, own4, own5, bel4, li⟩ := hrel
              have OWN4 := Lib.hid own4
              have OWN5 := Lib.hid own5
              have BEL4 := Lib.hid bel4
              have LIJ := Lib.hid li
              clear own4 own5 bel4 li LI BEL3 OWN3 OWNB
              by_cases hjm : j < m
              · obtain ⟨p, hp, hpk⟩ := orb_at HS.out hlt (show j < (orbL xss k i).length by rw [HML.out]; exact hjm)
                obtain ⟨b, o, x, rfl, hgx, hcx⟩ := (own_rd OWN5.out).int (k := j) (by rw [HML.out]; exact hjm)
                rw [hp] at hgx
                injection hgx with hgx
                subst hgx
                obtain ⟨u, hu⟩ := ints_at LIJ.out.len hpk
                have hcl := own_cell OWN4.out hu
                have hfz := OWN4.out.frozenAt p
                have hst := OWN4.out.stored p (.int .i64 cnt)
                have O6 := Lib.hid hst.1
                have O7 := Lib.hid (own_apart (v := .slice (some ⟨g, 0, none⟩) k c') OWN5.out hst.2 IN3.out INB.out (.inr (Nat.le_refl _)))
                have B6 := Lib.hid (BEL4.out.setCell (p := ⟨g, p, none⟩) hglo (.int .i64 cnt))
                have L6 := Lib.hid (show LIn xss k i (j + 1) (D2.set p (cnt : Int)) by rw [HCN.out]; exact lin_step LIJ.out HPS.out hp hpk)
                clear hst hp hu
                go_wp2
                go_roundw
                case rel => exact ⟨j + 1, D2.set p (cnt : Int), by omega, by go_num, by have h := O6.out; rwa [ints_set] at h, O7.out, B6.out, L6.out⟩
                case measure => simp [intOf]; omega
              · have LE := Lib.hid (lin_end LIJ.out (by rw [HML.out]; omega) HM.out)
                go_wp2
                go_roundw
                case rel => exact ⟨i + 1, cnt + 1, D2, by omega, by go_num, by go_num, OWN4.out, BEL4.out, by rw [HCN.out]; exact LE.out⟩
                case measure => simp [intOf]; omega
        · obtain rfl : i = k := by omega
          have HE := Lib.hid (lab_all HS.out S.out.len S.out.lab)
          have h := OWN2.out
          rw [HE.out] at h
          have HO := Lib.hid h
          clear h
          go_wp2
          go_ret
          exact ⟨A', c', rfl, HO.out, BEL2.out⟩
structure ISt (w1 wr : World) (xss : List (List Int)) (n k : Nat) (D : List Int) (cnt : Nat) : Prop where
  lab : LabOk D (orbsTo xss n k)
  cn : cnt = (orbsTo xss n k).length
  len : D.length = n
  own : wr.ownsRow w1.heap.size 2 1 (.slice (some ⟨w1.heap.size, 0, none⟩) n n) n (ints D)
  seen : wr.ownsRow w1.heap.size 4 1 (.slice (some ⟨w1.heap.size + 1, 0, none⟩) n n) n (seenL n (orbsTo xss n k).flatten)
  bel : Below w1.heap.size w1 wr
structure IIn (w1 wo wr : World) (xss : List (List Int)) (n k j : Nat) (D : List Int) (A3 : Option Addr) (m c3 hi : Nat) : Prop where
  lab : LabOk D (orbsTo xss n k)
  new : NewOk D ((orbL xss n k).take j) (orbsTo xss n k).length
  len : D.length = n
  own : wr.ownsRow w1.heap.size 2 1 (.slice (some ⟨w1.heap.size, 0, none⟩) n n) n (ints D)
  seen : wr.ownsRow w1.heap.size 4 1 (.slice (some ⟨w1.heap.size + 1, 0, none⟩) n n) n (seenL n ((orbsTo xss n k).flatten ++ orbL xss n k))
  orb : wr.ownsRow wo.heap.size 2 1 (.slice A3 m c3) m (ints (orbL xss n k))
  oin : InB (.slice A3 m c3) wo.heap.size hi
  lo : w1.heap.size + 1 ≤ wo.heap.size
  bel : Below w1.heap.size w1 wr
theorem ist_skip {w1 wr : World} {xss : List (List Int)} {n k : Nat} {D : List Int} {cnt : Nat} (h : ISt w1 wr xss n k D cnt) (hk : (k : Int) ∈ (orbsTo xss n k).flatten) : ISt w1 wr xss n (k + 1) D cnt := by
  obtain ⟨h1, h2, h3, h4, h5, h6⟩ := h
  rw [← orbsTo_in hk] at h1 h2 h5
  exact ⟨h1, h2, h3, h4, h5, h6⟩
theorem iin_start {w1 wo w3 : World} {xss : List (List Int)} {n k cnt m c3 : Nat} {A3 : Option Addr} {D : List Int} (h : ISt w1 wo xss n k D cnt)
    (own3 : w3.ownsRow wo.heap.size 2 1 (.slice A3 m c3) m (ints (orbL xss n k)))
    (seen3 : w3.ownsRow w1.heap.size 4 1 (.slice (some ⟨w1.heap.size + 1, 0, none⟩) n n) n (seenL n ((orbsTo xss n k).flatten ++ orbL xss n k))) (tu : Turns (w1.heap.size + 1) (w1.heap.size + 1 + 1) wo w3) :
    IIn w1 wo w3 xss n k 0 D A3 m c3 w3.heap.size := by
  have hlo := (h.seen.lt (w1.heap.size + 1) rfl).2
  refine ⟨h.lab, by simpa using newOk_nil _ _, h.len, tu.own h.own (lo' := w1.heap.size) (hi' := w1.heap.size + 1) (fun k hk => by simp [Value.ownBlock] at hk; omega) (.inl (Nat.le_refl _)), seen3, own3, own_in own3, by omega, tu.below h.bel h.bel.size (by omega)⟩
theorem iin_step {w1 wo wr : World} {xss : List (List Int)} {n k j p cnt m c3 hi : Nat} {A3 : Option Addr} {D : List Int} (h : IIn w1 wo wr xss n k j D A3 m c3 hi) (hc : cnt = (orbsTo xss n k).length) (hps : Passed n ((orbsTo xss n k).flatten ++ orbL xss n k)) (hp : (orbL xss n k)[j]? = some (p : Int)) (hpn : p < n) :
    IIn w1 wo (wr.setCell ⟨w1.heap.size, p, none⟩ (.int .i64 cnt)) xss n k (j + 1) (D.set p (cnt : Int)) A3 m c3 hi := by
  have hm := List.mem_of_getElem? hp
  have hno : ¬ (p : Int) ∈ (orbsTo xss n k).flatten := fun h1 => (List.nodup_append.1 hps.2).2.2 _ h1 _ hm rfl
  have hst := h.own.stored p (.int .i64 cnt)
  subst hc
  refine ⟨lab_set h.lab hno, ?_, by simp [h.len], ?_, h.seen.kept hst.2 (own_ne h.seen h.own (by decide)), ?_, h.oin, h.lo, h.bel.setCell (Nat.le_refl _) _⟩
  · rw [take_succ_of hp]; exact new_set h.new (by rw [h.len]; exact hpn)
  · have h1 := hst.1; rwa [ints_set] at h1
  · exact own_apart (v := .slice (some ⟨w1.heap.size, 0, none⟩) n n) (lo' := w1.heap.size) (hi' := w1.heap.size + 1) h.orb hst.2 h.oin (fun k hk => by simp [Value.ownBlock] at hk; omega) (.inr h.lo)
theorem iin_end {w1 wo wr : World} {xss : List (List Int)} {n k j m c3 hi : Nat} {A3 : Option Addr} {D : List Int} (h : IIn w1 wo wr xss n k j D A3 m c3 hi) (hj : (orbL xss n k).length ≤ j) (hk : ¬ (k : Int) ∈ (orbsTo xss n k).flatten) : ISt w1 wr xss n (k + 1) D ((orbsTo xss n k).length + 1) := by
  have e := List.take_of_length_le hj
  obtain ⟨h1, h3, h4, h5, h6, _, _, _, h9⟩ := h
  rw [e] at h3
  refine ⟨by rw [orbsTo_out hk]; exact lab_snoc h1 h3, by rw [orbsTo_out hk]; simp, h4, h5, ?_, h9⟩
  rw [orbsTo_out hk, List.flatten_append]
  simpa using h6
theorem ist_start (w1 : World) (xss : List (List Int)) (n : Nat) (hn : n ≤ 9223372036854775807) :
    ISt w1 ((w1.alloc (.cells (madeCells #[.int .i64 0] n) 2)).alloc (.cells (madeCells #[.bool false] n) 4)) xss n 0 (List.replicate n 0) 0 := by
  have h1 := make_own w1 (.int .i64 0) n 2 (by unfold maxLen; omega)
  have h2 := seen_start (w1.alloc (.cells (madeCells #[.int .i64 0] n) 2)) n hn
  have hs : (w1.alloc (Obj.cells (madeCells #[.int .i64 0] n) 2)).heap.size = w1.heap.size + 1 := by simp
  rw [hs] at h2
  exact ⟨by simpa [orbsTo] using labOk_nil _, by simp [orbsTo], by simp, by simpa using h1.alloc _, by simpa [orbsTo] using own_base h2 (Nat.le_succ _), ((Below.refl _ _).alloc (Nat.le_refl _) _).alloc (by simp) _⟩

set_option maxHeartbeats 3200000 in
theorem iLab_any {A : Option Addr} {c N : Nat} {xss : List (List Int)} (n : Int) (w : World) (hx : xss.length = N) (ha : RdSS w A xss) (hN : N ≤ 1048576) (hr : ∀ xs ∈ xss, (xs.length : Int) ≤ 1048576) :
    Calls Try.prog 174 #[.int .i64 n, .slice A N c] w (RetS w (labR n xss) (sysC n xss)) := by
  have HX := Lib.hid hx
  have HA := Lib.hid ha
  have HR := Lib.hid hr
  clear hx ha hr
  cases hs : okSys n xss
  · have h1 : labR n xss = [] := by simp [labR, hs]
    have h2 : sysC n xss = 1 := by simp [sysC, hs]
    have HS := Lib.hid hs
    rw [h1, h2]
    clear h1 h2 hs
    go_enter Try.func174, Try.ntmps174
    go_wp2_with fail
    refine (isys_any n w HX.out HA.out hN HR.out).mono ?_
    rintro e w1 ⟨rfl, bel⟩
    rw [HS.out]
    have BEL := Lib.hid bel
    clear bel
    go_wp2
    go_ret2
    exact ⟨none, 0, rfl, World.ownsRow_nil _ _ _ _, BEL.out⟩
  obtain ⟨m, rfl⟩ := Int.eq_ofNat_of_zero_le (sys_parts hs).1
  have hn4 := (sys_parts hs).2.1
  have h1 : labR (m : Int) xss = labL xss m := by simp [labR, hs]
  have h2 : sysC (m : Int) xss = 0 := by simp [sysC, hs]
  have HS := Lib.hid hs
  rw [h1, h2]
  clear h1 h2 hs
  have hmk := run_make_row' (P := Try.prog) 36 2 (.int .i64 0) 8 Try.underlying36 Try.info2 rfl .i64 .i64 m (by omega) (by omega)
  have hmk2 := run_make_row' (P := Try.prog) 150 4 (.bool false) 1 Try.underlying150 Try.infoB rfl .i64 .i64 m (by omega) (by omega)
  go_enter Try.func174, Try.ntmps174
  go_wp2_with fail
  refine (isys_any _ w HX.out HA.out hN HR.out).mono ?_
  rintro e w1 ⟨rfl, bel⟩
  rw [HS.out]
  have BEL := Lib.hid bel
  have HA1 := Lib.hid (HA.out.keep bel)
  have ST := Lib.hid (ist_start w1 xss m (by omega))
  clear bel
  go_wp2
  clear hmk hmk2
  go_loopw [8, 21] (fun v q wr => ∃ (i cnt : Nat) (D : List Int), i ≤ m ∧ q = .int .i64 i ∧ v = .int .i64 cnt ∧ ISt w1 wr xss m i D cnt) (fun _ q _ => m - (intOf q).toNat)
  case atStart => exact ⟨0, 0, _, Nat.zero_le _, rfl, rfl, ST.out⟩
  case round =>
    obtain ⟨i, cnt, D, hi, rfl, rfl, st⟩ := hrel
    have S := Lib.hid st
    clear st ST
    by_cases hlt : i < m
    · have hcs := own_cell S.out.seen (seenL_at hlt)
      by_cases hm : (i : Int) ∈ (orbsTo xss m i).flatten
      · rw [decide_eq_true hm] at hcs
        have S2 := Lib.hid (ist_skip S.out hm)
        clear hm
        go_wp2
        go_roundw
        case rel => exact ⟨i + 1, cnt, D, by omega, by go_num, rfl, S2.out⟩
        case measure => simp [intOf]; omega
      · rw [decide_eq_false hm] at hcs
        have HM := Lib.hid hm
        have hof := orbsTo_facts HS.out i (by omega)
        have HPS := Lib.hid ((orb_aside HS.out hof.1 hof.2.1 hlt hm).2.1)
        have HOF := Lib.hid hof
        have hol := passed_len (orb_passed HS.out hlt)
        obtain ⟨l, hml⟩ : ∃ l, (orbL xss m i).length = l := ⟨_, rfl⟩
        have HML := Lib.hid hml
        rw [hml] at hol
        have hcn := S.out.cn
        have hcb := orbs_cnt HS.out hi
        rw [← hcn] at hcb
        have HCN := Lib.hid hcn
        clear hm hml hcn hof
        go_wp2_with fail
        refine (iorb_any w1 wr HX.out HA1.out S.out.bel (Nat.le_succ _) hN HS.out hlt HOF.out.1 HOF.out.2.1 HM.out S.out.seen).mono ?_
        rintro e w3 ⟨A3, c3, rfl, own3, seen3, tu3⟩
        rw [HML.out] at own3 ⊢
        have LI := Lib.hid (iin_start S.out own3 seen3 tu3)
        obtain ⟨hi3, hh3⟩ : ∃ hi3, w3.heap.size = hi3 := ⟨_, rfl⟩
        rw [hh3] at LI
        obtain ⟨wo, rfl⟩ : ∃ wo : World, wo = wr := ⟨_, rfl⟩
        clear own3 seen3 tu3 hh3 hcs
        go_wp2
        go_loopw [33] (fun q wi => ∃ (j : Nat) (D : List Int), j ≤ l ∧ q = .int .i64 j ∧ IIn w1 wo wi xss m i j D A3 l c3 hi3) (fun q _ => l - (intOf q).toNat)
        case atStart => exact ⟨0, D, Nat.zero_le _, rfl, LI.out⟩
        case round =>
          obtain ⟨j, D2, hj, rfl, li⟩ := hrel
          have LIJ := Lib.hid li
          clear li LI
          by_cases hjm : j < l
          · obtain ⟨p, hp, hpk⟩ := orb_at HS.out hlt (show j < (orbL xss m i).length by rw [HML.out]; exact hjm)
            obtain ⟨b, o, x, rfl, hgx, hcx⟩ := (own_rd LIJ.out.orb).int (k := j) (by rw [HML.out]; exact hjm)
            rw [hp] at hgx
            injection hgx with hgx
            subst hgx
            obtain ⟨u, hu⟩ := ints_at LIJ.out.len hpk
            have hcl := own_cell LIJ.out.own hu
            have hfz := LIJ.out.own.frozenAt p
            have L6 := Lib.hid (iin_step LIJ.out HCN.out HPS.out hp hpk)
            clear hp hu
            go_wp2
            go_roundw
            case rel => exact ⟨j + 1, D2.set p (cnt : Int), by omega, by go_num, L6.out⟩
            case measure => simp [intOf]; omega
          · have LE := Lib.hid (iin_end LIJ.out (by rw [HML.out]; omega) HM.out)
            go_wp2
            go_roundw
            case rel => exact ⟨i + 1, cnt + 1, D2, by omega, by go_num, by go_num, by rw [HCN.out]; exact LE.out⟩
            case measure => simp [intOf]; omega
    · obtain rfl : i = m := by omega
      have HE := Lib.hid (lab_all HS.out S.out.len S.out.lab)
      have h := S.out.own
      rw [HE.out] at h
      have HO := Lib.hid h
      clear h
      go_wp2
      go_ret2
      exact ⟨_, _, by rw [labL_length]; rfl, by rw [labL_length]; exact own_base HO.out BEL.out.size, BEL.out.trans (S.out.bel.mono BEL.out.size)⟩
end Go.Proofs.Ytmgoaabeopnopaa
/- Maniplexes as lists of moves, and distances; plain facts, no program. -/
namespace Go.Proofs.Ytmgoaabeopnopaa
open Go.RowKit

def flN (xss : List (List Int)) : Nat := (xss.headD []).length
/-- Two moves commute and lead no flag to the same flag. -/
def SqOk (n : Nat) (p q : List Int) : Prop := ∀ f : Nat, f < n → fz p f ≠ fz q f ∧ fz p (fz q f) = fz q (fz p f)
structure IsMan (xss : List (List Int)) : Prop where
  r1 : 1 ≤ xss.length
  r5 : xss.length ≤ 5
  f2 : 2 ≤ flN xss
  f4 : flN xss ≤ 400
  row : ∀ xs ∈ xss, xs.length = flN xss ∧ okP xs = true ∧ freeP xs = true
  sq : ∀ (i k : Nat) (p q : List Int), i + 2 ≤ k → xss[i]? = some p → xss[k]? = some q → SqOk (flN xss) p q
  orb : (orbL xss (flN xss) 0).length = flN xss
noncomputable def okMan (xss : List (List Int)) : Bool := @decide (IsMan xss) (Classical.propDecidable _)
theorem okMan_iff {xss : List (List Int)} : okMan xss = true ↔ IsMan xss := ⟨fun h => @of_decide_eq_true _ (Classical.propDecidable _) h, fun h => @decide_eq_true _ (Classical.propDecidable _) h⟩
theorem okMan_false {xss : List (List Int)} (h : ¬ IsMan xss) : okMan xss = false := @decide_eq_false _ (Classical.propDecidable _) h
theorem okMan_true {xss : List (List Int)} (h : IsMan xss) : okMan xss = true := okMan_iff.2 h
theorem IsMan.sys {xss : List (List Int)} (h : IsMan xss) : okSys (flN xss) xss = true :=
  decide_eq_true ⟨by omega, by have := h.f4; omega, by have := h.r5; omega, fun xs hx => ⟨by rw [(h.row xs hx).1], (h.row xs hx).2.1⟩⟩

/-- A walk of k moves leads from p to x. -/
def Wn (xss : List (List Int)) (p : Int) : Nat → Int → Prop
  | 0, x => x = p
  | k + 1, x => ∃ g ∈ xss, ∃ y, Wn xss p k y ∧ fz g y = x
def IsD (xss : List (List Int)) (p x : Int) (d : Nat) : Prop := Wn xss p d x ∧ ∀ k, k < d → ¬ Wn xss p k x
section
variable {xss : List (List Int)} {n i : Nat} {p x y z : Int} {d e : Nat} {O : List Int} {g : List Int}
theorem isD_uniq (h : IsD xss p x d) (h' : IsD xss p x e) : d = e := by
  rcases Nat.lt_trichotomy d e with h1 | h1 | h1
  · exact absurd h.1 (h'.2 d h1)
  · exact h1
  · exact absurd h'.1 (h.2 e h1)
theorem isD_of (k : Nat) : ∀ {x : Int}, Wn xss p k x → ∃ d, d ≤ k ∧ IsD xss p x d := by
  induction k using Nat.strongRecOn with
  | _ k ih =>
    intro x h
    by_cases hk : ∃ j, j < k ∧ Wn xss p j x
    · obtain ⟨j, hj, hw⟩ := hk
      obtain ⟨d, hd, hi⟩ := ih j hj hw
      exact ⟨d, by omega, hi⟩
    · exact ⟨k, Nat.le_refl _, h, fun j hj hw => hk ⟨j, hj, hw⟩⟩
theorem isD_zero : IsD xss p p 0 := ⟨rfl, fun k h => absurd h (by omega)⟩
theorem isD_pred (h : IsD xss p x d) (hne : x ≠ p) : ∃ g ∈ xss, ∃ y m, fz g y = x ∧ IsD xss p y m ∧ m + 1 = d := by
  cases d with
  | zero => exact absurd h.1 hne
  | succ m =>
    obtain ⟨g, hg, y, hw, he⟩ := h.1
    obtain ⟨m', hm', hi⟩ := isD_of m hw
    refine ⟨g, hg, y, m', he, hi, ?_⟩
    rcases Nat.lt_or_ge m' m with h1 | h1
    · exact absurd ⟨g, hg, y, hi.1, he⟩ (h.2 (m' + 1) (by omega))
    · omega
theorem isD_step (h : IsD xss p x d) (hg : g ∈ xss) : ∃ e, e ≤ d + 1 ∧ IsD xss p (fz g x) e := isD_of (d + 1) ⟨g, hg, x, h.1, rfl⟩

/-- What holds of the list of the points reached, when those before the place i are done. -/
structure OInv (xss : List (List Int)) (n : Nat) (p : Int) (i : Nat) (O : List Int) : Prop where
  ps : Passed n O
  hd : O[0]? = some p
  ex : ∀ x ∈ O, ∃ d, IsD xss p x d
  mono : ∀ (a b : Nat) (x y : Int) (d e : Nat), a ≤ b → O[a]? = some x → O[b]? = some y → IsD xss p x d → IsD xss p y e → d ≤ e
  near : ∀ (a : Nat) (x y : Int) (d e : Nat), O[a]? = some x → O[i]? = some y → IsD xss p x d → IsD xss p y e → d ≤ e + 1
  cl : ∀ (k : Nat) (x : Int), k < i → O[k]? = some x → ∀ g ∈ xss, fz g x ∈ O
  low : ∀ (y z : Int) (d e : Nat), O[i]? = some y → IsD xss p y e → IsD xss p z d → d < e → ∃ a, a < i ∧ O[a]? = some z
  idx : ∀ (a : Nat) (x : Int) (d : Nat), O[a]? = some x → IsD xss p x d → d ≤ a
theorem get_snoc {a : Nat} {u v : Int} (h : (O ++ [v])[a]? = some u) : (a < O.length ∧ O[a]? = some u) ∨ (a = O.length ∧ u = v) := by
  rcases Nat.lt_or_ge a O.length with h1 | h1
  · rw [List.getElem?_append_left h1] at h; exact .inl ⟨h1, h⟩
  · rw [List.getElem?_append_right h1] at h
    have h2 := (List.getElem?_eq_some_iff.1 h).1
    simp at h2
    have h3 : a = O.length := by omega
    subst h3
    simp at h
    exact .inr ⟨rfl, h.symm⟩
theorem oinv_start {q : Nat} (hq : q < n) : OInv xss n (q : Int) 0 [(q : Int)] := by
  have one : ∀ (a : Nat) (x : Int), [(q : Int)][a]? = some x → x = (q : Int) := fun a x h => by
    have := List.mem_of_getElem? h; simpa using this
  refine ⟨by simpa using passed_snoc (passed_nil n) hq (by simp), rfl, fun x hx => ⟨0, by simp at hx; subst hx; exact isD_zero⟩, ?_, ?_, fun k x h => absurd h (by omega), ?_, ?_⟩
  · intro a b x y d e _ hx hy h1 h2
    rw [one a x hx] at h1; rw [one b y hy] at h2
    rw [isD_uniq h1 isD_zero]; exact Nat.zero_le _
  · intro a x y d e hx hy h1 h2
    rw [one a x hx] at h1
    rw [isD_uniq h1 isD_zero]; exact Nat.zero_le _
  · intro y z d e hy h1 h2 hlt
    rw [one 0 y hy] at h1
    rw [isD_uniq h1 isD_zero] at hlt; omega
  · intro a x d hx h1
    rw [one a x hx] at h1
    rw [isD_uniq h1 isD_zero]; exact Nat.zero_le _
/-- A new point that a move leads to from the point at the place i. -/
theorem oinv_push (h : OInv xss n p i O) (hx : O[i]? = some x) (hg : g ∈ xss) (hy : ¬ fz g x ∈ O) (h0 : 0 ≤ fz g x) (h1 : fz g x < (n : Int)) (hd : IsD xss p x d) :
    OInv xss n p i (O ++ [fz g x]) ∧ IsD xss p (fz g x) (d + 1) := by
  have hil := (List.getElem?_eq_some_iff.1 hx).1
  have key : IsD xss p (fz g x) (d + 1) := by
    obtain ⟨e, he, hie⟩ := isD_step hd hg
    rcases Nat.lt_or_ge e (d + 1) with h2 | h2
    · exfalso
      have hne : fz g x ≠ p := fun hp => hy (hp ▸ List.mem_of_getElem? h.hd)
      obtain ⟨g', hg', u, m, hu, hm, hmd⟩ := isD_pred hie hne
      obtain ⟨a, ha, hau⟩ := h.low x u m d hx hd hm (by omega)
      exact hy (hu ▸ h.cl a u ha hau g' hg')
    · have : e = d + 1 := by omega
      rw [← this]; exact hie
  have hxi : (O ++ [fz g x])[i]? = some x := by rw [List.getElem?_append_left hil]; exact hx
  refine ⟨⟨?_, ?_, ?_, ?_, ?_, ?_, ?_, ?_⟩, key⟩
  · have := ps_push (R := []) (by simpa using h.ps) h0 h1 (by simpa using hy)
    simpa using this
  · rw [List.getElem?_append_left (by omega)]; exact h.hd
  · intro z hz
    rcases List.mem_append.1 hz with h2 | h2
    · exact h.ex z h2
    · simp at h2; subst h2; exact ⟨_, key⟩
  · intro a b u v d' e hab hu hv h2 h3
    rcases get_snoc hu with ⟨ha, hu⟩ | ⟨ha, hu⟩
    · rcases get_snoc hv with ⟨hb, hv⟩ | ⟨hb, hv⟩
      · exact h.mono a b u v d' e hab hu hv h2 h3
      · subst hv
        rw [isD_uniq h3 key]
        exact h.near a u x d' d hu hx h2 hd
    · rcases get_snoc hv with ⟨hb, hv⟩ | ⟨hb, hv⟩
      · omega
      · subst hv; subst hu
        rw [isD_uniq h2 h3]; exact Nat.le_refl _
  · intro a u v d' e hu hv h2 h3
    rw [hxi] at hv
    injection hv with hv
    subst hv
    rw [isD_uniq h3 hd]
    rcases get_snoc hu with ⟨ha, hu⟩ | ⟨ha, hu⟩
    · exact h.near a u x d' d hu hx h2 hd
    · subst hu; rw [isD_uniq h2 key]; exact Nat.le_refl _
  · intro k u hk hu g' hg'
    rcases get_snoc hu with ⟨ha, hu⟩ | ⟨ha, hu⟩
    · exact List.mem_append.2 (.inl (h.cl k u hk hu g' hg'))
    · omega
  · intro v z d' e hv h2 h3 hlt
    rw [hxi] at hv
    injection hv with hv
    subst hv
    obtain ⟨a, ha, hz⟩ := h.low x z d' e hx h2 h3 hlt
    exact ⟨a, ha, by rw [List.getElem?_append_left (by omega)]; exact hz⟩
  · intro a u d' hu h2
    rcases get_snoc hu with ⟨ha, hu⟩ | ⟨ha, hu⟩
    · exact h.idx a u d' hu h2
    · subst hu
      rw [isD_uniq h2 key]
      have := h.idx i x d hx hd
      omega
theorem oinv_next (h : OInv xss n p i O) (hx : O[i]? = some x) (hall : ∀ g ∈ xss, fz g x ∈ O) : OInv xss n p (i + 1) O := by
  obtain ⟨d, hd⟩ := h.ex x (List.mem_of_getElem? hx)
  refine ⟨h.ps, h.hd, h.ex, h.mono, ?_, ?_, ?_, h.idx⟩
  · intro a u v d' e hu hv h2 h3
    have h4 := h.near a u x d' d hu hx h2 hd
    have h5 := h.mono i (i + 1) x v d e (by omega) hx hv hd h3
    omega
  · intro k u hk hu g hg
    rcases Nat.lt_succ_iff_lt_or_eq.1 hk with h2 | rfl
    · exact h.cl k u h2 hu g hg
    · rw [hx] at hu; injection hu with hu; subst hu; exact hall g hg
  · intro v z d' e hv h2 h3 hlt
    have hne := h.near (i + 1) v x e d hv hx h2 hd
    rcases Nat.lt_or_ge d' d with h4 | h4
    · obtain ⟨a, ha, hz⟩ := h.low x z d' d hx hd h3 h4
      exact ⟨a, by omega, hz⟩
    · by_cases hzp : z = p
      · exact ⟨0, by omega, by rw [hzp]; exact h.hd⟩
      · obtain ⟨g, hg, u, m, hu, hm, hmd⟩ := isD_pred h3 hzp
        obtain ⟨a, ha, hau⟩ := h.low x u m d hx hd hm (by omega)
        have hzO : z ∈ O := hu ▸ h.cl a u ha hau g hg
        obtain ⟨b, hb, hbz⟩ := List.mem_iff_getElem.1 hzO
        have hbz' : O[b]? = some z := by rw [List.getElem?_eq_getElem hb, hbz]
        refine ⟨b, ?_, hbz'⟩
        rcases Nat.lt_or_ge b (i + 1) with h5 | h5
        · exact h5
        · have := h.mono (i + 1) b v z e d' h5 hv hbz' h2 h3
          omega
theorem oinv_gens (hsys : okSys n xss = true) (hx0 : 0 ≤ x) (hx1 : x < (n : Int)) : ∀ (gs : List (List Int)), (∀ g ∈ gs, g ∈ xss) → ∀ (O : List Int), OInv xss n p i O → O[i]? = some x →
    OInv xss n p i (bfsG [] x gs O) ∧ (bfsG [] x gs O)[i]? = some x ∧ (∀ z ∈ O, z ∈ bfsG [] x gs O) ∧ ∀ g ∈ gs, fz g x ∈ bfsG [] x gs O
  | [], _, O, h, hx => ⟨h, hx, fun z hz => hz, by simp⟩
  | g :: gs, hgs, O, h, hx => by
    have hg := hgs g (by simp)
    have hi := sys_img hsys hg hx0 hx1
    obtain ⟨d, hd⟩ := h.ex x (List.mem_of_getElem? hx)
    have hstep : OInv xss n p i (genStep [] x O g) ∧ (genStep [] x O g)[i]? = some x ∧ (∀ z ∈ O, z ∈ genStep [] x O g) ∧ fz g x ∈ genStep [] x O g := by
      unfold genStep
      split
      · rename_i hin
        exact ⟨h, hx, fun z hz => hz, by simpa [fz] using hin⟩
      · rename_i hin
        have := oinv_push h hx hg (by simpa [fz] using hin) hi.1 hi.2 hd
        refine ⟨this.1, ?_, fun z hz => List.mem_append.2 (.inl hz), by simp [fz]⟩
        rw [List.getElem?_append_left (List.getElem?_eq_some_iff.1 hx).1]; exact hx
    obtain ⟨a1, a2, a3, a4⟩ := oinv_gens hsys hx0 hx1 gs (fun g' h' => hgs g' (List.mem_cons.2 (.inr h'))) (genStep [] x O g) hstep.1 hstep.2.1
    refine ⟨a1, a2, fun z hz => a3 z (hstep.2.2.1 z hz), fun g' h' => ?_⟩
    rcases List.mem_cons.1 h' with rfl | h'
    · exact a3 _ hstep.2.2.2
    · exact a4 g' h'
theorem oinv_bfs (hsys : okSys n xss = true) : ∀ (f : Nat) (O : List Int) (i : Nat), f = n - i → i ≤ O.length → OInv xss n p i O → ∃ j, (bfs xss [] f O i).length ≤ j ∧ OInv xss n p j (bfs xss [] f O i)
  | 0, O, i, hf, hi, h => ⟨i, by have := passed_len h.ps; show O.length ≤ i; omega, h⟩
  | f + 1, O, i, hf, hi, h => by
    cases hz : O[i]? with
    | none =>
      have e1 : bfs xss [] (f + 1) O i = O := by rw [bfs, hz]
      rw [e1]
      exact ⟨i, List.getElem?_eq_none_iff.1 hz, h⟩
    | some x =>
      have e1 : bfs xss [] (f + 1) O i = bfs xss [] f (bfsG [] x xss O) (i + 1) := by rw [bfs, hz]
      have hxr := h.ps.1 x (List.mem_of_getElem? hz)
      obtain ⟨a1, a2, a3, a4⟩ := oinv_gens hsys hxr.1 hxr.2 xss (fun g h => h) O h hz
      rw [e1]
      exact oinv_bfs hsys f _ (i + 1) (by omega) (by have := (List.getElem?_eq_some_iff.1 a2).1; omega) (oinv_next a1 a2 a4)
theorem oinv_orb {q : Nat} (hsys : okSys n xss = true) (hq : q < n) : ∃ j, (orbL xss n q).length ≤ j ∧ OInv xss n (q : Int) j (orbL xss n q) :=
  oinv_bfs hsys n [(q : Int)] 0 rfl (by simp) (oinv_start hq)
/-- The orbit lies in each closed list that has its point. -/
theorem bfsG_sub {S : List Int} (hc : Closed xss S) (hx : x ∈ S) : ∀ (gs : List (List Int)), (∀ g ∈ gs, g ∈ xss) → ∀ O : List Int, (∀ z ∈ O, z ∈ S) → ∀ z ∈ bfsG [] x gs O, z ∈ S
  | [], _, O, h => h
  | g :: gs, hgs, O, h => by
    refine bfsG_sub hc hx gs (fun g' h' => hgs g' (List.mem_cons.2 (.inr h'))) (genStep [] x O g) ?_
    unfold genStep
    split
    · exact h
    · intro z hz
      rcases List.mem_append.1 hz with h1 | h1
      · exact h z h1
      · simp at h1; subst h1; exact hc g (hgs g (by simp)) x hx
theorem bfs_sub {S : List Int} (hc : Closed xss S) : ∀ (f : Nat) (O : List Int) (i : Nat), (∀ z ∈ O, z ∈ S) → ∀ z ∈ bfs xss [] f O i, z ∈ S
  | 0, O, i, h => h
  | f + 1, O, i, h => by
    cases hz : O[i]? with
    | none =>
      have e1 : bfs xss [] (f + 1) O i = O := by rw [bfs, hz]
      rw [e1]; exact h
    | some x =>
      have e1 : bfs xss [] (f + 1) O i = bfs xss [] f (bfsG [] x xss O) (i + 1) := by rw [bfs, hz]
      rw [e1]
      exact bfs_sub hc f _ (i + 1) (bfsG_sub hc (h x (List.mem_of_getElem? hz)) xss (fun g h => h) O h)
theorem orb_sub {S : List Int} {q : Nat} (hc : Closed xss S) (hq : (q : Int) ∈ S) : ∀ z ∈ orbL xss n q, z ∈ S :=
  bfs_sub hc n [(q : Int)] 0 (by simpa using hq)
theorem len_all {l : List Int} (h : ∀ k : Nat, k < n → (k : Int) ∈ l) (hp : Passed n l) : l.length = n := by
  have h1 := passed_len hp
  have h2 : ((List.range n).map fun k : Nat => (k : Int)).length ≤ l.length := List.Nodup.length_le_of_subset (by
    refine List.pairwise_map.2 (List.Pairwise.imp ?_ (List.nodup_range (n := n)))
    intro a b hab he
    exact hab (by omega)) (by
    intro z hz
    obtain ⟨k, hk, rfl⟩ := List.mem_map.1 hz
    exact h k (by simpa using hk))
  simp at h2
  omega
theorem mem_all {l : List Int} (h : l.length = n) (hp : Passed n l) {q : Nat} (hq : q < n) : (q : Int) ∈ l := by
  apply Classical.byContradiction
  intro hn
  have := passed_len (passed_snoc hp hq hn)
  simp at this
  omega
/-- In a maniplex each flag leads to all. -/
theorem IsMan.all (h : IsMan xss) {q : Nat} (hq : q < flN xss) : (orbL xss (flN xss) q).length = flN xss := by
  have hsys := h.sys
  have h0 : 0 < flN xss := by have := h.f2; omega
  have oa := orb_aside hsys (passed_nil _) (closed_nil xss) hq (by simp)
  have hps : Passed (flN xss) (orbL xss (flN xss) q) := by simpa using oa.2.1
  have hcl : Closed xss (orbL xss (flN xss) q) := by simpa using oa.2.2.2
  have ps0 := orb_passed hsys h0
  by_cases hz : (0 : Int) ∈ orbL xss (flN xss) q
  · refine len_all (fun k hk => ?_) hps
    exact orb_sub (q := 0) hcl (by simpa using hz) _ (mem_all (by simpa using h.orb) ps0 hk)
  · exfalso
    have o2 := (orb_aside hsys hps hcl h0 (by simpa using hz)).2.1
    have hm : (q : Int) ∈ orbL xss (flN xss) ((0 : Nat) : Int) := mem_all (by simpa using h.orb) ps0 hq
    exact (List.nodup_append.1 o2.2).2.2 _ oa.2.2.1 _ hm rfl

/-- The list of the distances of n points. -/
def DOk (xss : List (List Int)) (n : Nat) (p : Int) (D : List Int) : Prop := D.length = n ∧ ∀ y : Nat, y < n → ∃ d : Nat, D[y]? = some (d : Int) ∧ IsD xss p y d
theorem dok_uniq {D D' : List Int} (h : DOk xss n p D) (h' : DOk xss n p D') : D = D' := by
  apply List.ext_getElem?
  intro k
  by_cases hk : k < n
  · obtain ⟨d, h1, h2⟩ := h.2 k hk
    obtain ⟨e, h3, h4⟩ := h'.2 k hk
    rw [h1, h3, isD_uniq h2 h4]
  · rw [List.getElem?_eq_none (by have := h.1; omega), List.getElem?_eq_none (by have := h'.1; omega)]
open Classical in
noncomputable def distL (xss : List (List Int)) (n : Nat) (p : Int) : List Int := if h : ∃ D, DOk xss n p D then h.choose else []
theorem distL_eq {D : List Int} (h : DOk xss n p D) : D = distL xss n p := by
  have he : ∃ D, DOk xss n p D := ⟨D, h⟩
  unfold distL
  rw [dif_pos he]
  exact dok_uniq h he.choose_spec

/-- What the list of distances holds while the search goes on. -/
structure DInv (xss : List (List Int)) (n : Nat) (p : Int) (O D : List Int) : Prop where
  len : D.length = n
  on : ∀ y : Nat, (y : Int) ∈ O → ∃ d : Nat, D[y]? = some (d : Int) ∧ IsD xss p y d
  off : ∀ y : Nat, y < n → ¬ (y : Int) ∈ O → D[y]? = some (-1)
theorem dinv_start {q : Nat} (hq : q < n) : DInv xss n (q : Int) [(q : Int)] ((List.replicate n (-1)).set q 0) := by
  refine ⟨by simp, fun y hy => ?_, fun y hy hn => ?_⟩
  · simp at hy
    obtain rfl : y = q := by omega
    exact ⟨0, by simp [hq], isD_zero⟩
  · have hne : q ≠ y := fun e => hn (by simp [e])
    rw [List.getElem?_set_ne hne]
    simp [hy]
theorem dinv_push {D : List Int} {q : Nat} (h : DInv xss n p O D) (hq : q < n) (hd : IsD xss p q d) : DInv xss n p (O ++ [(q : Int)]) (D.set q (d : Int)) := by
  refine ⟨by simp [h.len], fun y hy => ?_, fun y hy hn => ?_⟩
  · by_cases e : q = y
    · subst e
      exact ⟨d, by rw [List.getElem?_set_self (by rw [h.len]; exact hq)], hd⟩
    · rw [List.getElem?_set_ne e]
      rcases List.mem_append.1 hy with h1 | h1
      · exact h.on y h1
      · simp at h1; omega
  · have hne : q ≠ y := fun e => hn (by simp [e])
    rw [List.getElem?_set_ne hne]
    exact h.off y hy fun h1 => hn (List.mem_append.2 (.inl h1))
theorem dinv_ok {D : List Int} (h : DInv xss n p O D) (hall : ∀ y : Nat, y < n → (y : Int) ∈ O) : DOk xss n p D := ⟨h.len, fun y hy => h.on y (hall y hy)⟩

/-- What the list of distances holds while all points are gone through in the order O: at the place i, when j moves are done. -/
def RInv (xss : List (List Int)) (n : Nat) (p : Int) (O : List Int) (i j : Nat) (D : List Int) : Prop :=
  D.length = n ∧ ∀ y : Nat, y < n → (∃ d : Nat, D[y]? = some (d : Int) ∧ IsD xss p y d) ∨
    (D[y]? = some 400 ∧ (y : Int) ≠ p ∧ (∀ (a : Nat) (x : Int), a < i → O[a]? = some x → ∀ g ∈ xss, fz g x ≠ y) ∧ ∀ x : Int, O[i]? = some x → ∀ g ∈ xss.take j, fz g x ≠ y)
theorem rinv_start {q : Nat} (hq : q < n) : RInv xss n (q : Int) O 0 0 ((List.replicate n 400).set q 0) := by
  refine ⟨by simp, fun y hy => ?_⟩
  by_cases e : q = y
  · subst e
    exact .inl ⟨0, by simp [hq], isD_zero⟩
  · refine .inr ⟨by rw [List.getElem?_set_ne e]; simp [hy], by omega, fun a x h => absurd h (by omega), fun x _ g hg => by simp at hg⟩
theorem rinv_next {D : List Int} (h : RInv xss n p O i xss.length D) : RInv xss n p O (i + 1) 0 D := by
  refine ⟨h.1, fun y hy => ?_⟩
  rcases h.2 y hy with h1 | ⟨h1, h2, h3, h4⟩
  · exact .inl h1
  · refine .inr ⟨h1, h2, fun a x ha hx g hg => ?_, fun x _ g hg => by simp at hg⟩
    rcases Nat.lt_succ_iff_lt_or_eq.1 ha with h5 | rfl
    · exact h3 a x h5 hx g hg
    · exact h4 x hx g (by rw [List.take_length]; exact hg)
theorem wn_in {i' : Nat} (hsys : okSys n xss = true) (ho : OInv xss n p i' O) : ∀ (m : Nat) {y : Int}, Wn xss p m y → 0 ≤ y ∧ y < (n : Int)
  | 0, y, h => by have h : y = p := h; rw [h]; exact ho.ps.1 p (List.mem_of_getElem? ho.hd)
  | m + 1, y, h => by
    obtain ⟨g, hg, u, hu, rfl⟩ := h
    have := wn_in hsys ho m hu
    exact sys_img hsys hg this.1 this.2
/-- The point whose turn it is has its distance. -/
theorem rinv_at {D : List Int} {j q i' : Nat} (ho : OInv xss n p i' O) (hall : ∀ y : Nat, y < n → (y : Int) ∈ O) (hsys : okSys n xss = true) (h : RInv xss n p O i j D) (hx : O[i]? = some (q : Int)) (hq : q < n) : ∃ d : Nat, D[q]? = some (d : Int) ∧ IsD xss p q d ∧ d ≤ i := by
  rcases h.2 q hq with ⟨d, h1, h2⟩ | ⟨h1, h2, h3, h4⟩
  · exact ⟨d, h1, h2, ho.idx i q d hx h2⟩
  · exfalso
    obtain ⟨d, hd⟩ := ho.ex q (List.mem_of_getElem? hx)
    obtain ⟨g, hg, y, m, hy, hm, hmd⟩ := isD_pred hd h2
    have hyO : y ∈ O := by
      apply Classical.byContradiction
      intro hn
      have hwn := wn_in hsys ho m hm.1
      obtain ⟨t, rfl⟩ := Int.eq_ofNat_of_zero_le hwn.1
      exact hn (hall t (by omega))
    obtain ⟨b, hb, hby⟩ := List.mem_iff_getElem.1 hyO
    have hby' : O[b]? = some y := by rw [List.getElem?_eq_getElem hb, hby]
    have hbi : b < i := by
      rcases Nat.lt_or_ge b i with h5 | h5
      · exact h5
      · have := ho.mono i b q y d m h5 hx hby' hd hm
        omega
    exact h3 b y hbi hby' g hg hy
theorem rinv_step {D : List Int} {j q r i' : Nat} (ho : OInv xss n p i' O) (hall : ∀ y : Nat, y < n → (y : Int) ∈ O) (hsys : okSys n xss = true) (h : RInv xss n p O i j D) (hx : O[i]? = some (q : Int)) (hg : xss[j]? = some g) (hr : fz g q = (r : Int)) (hn4 : n ≤ 400)
    (hD : IsD xss p q d) {v : Int} (hv : D[r]? = some v) : RInv xss n p O i (j + 1) (D.set r (min v ((d : Int) + 1))) := by
  have hgm := List.mem_of_getElem? hg
  have hdi := ho.idx i q d hx hD
  have hil := (List.getElem?_eq_some_iff.1 hx).1
  have hOn := passed_len ho.ps
  refine ⟨by simp [h.1], fun y hy => ?_⟩
  by_cases e : r = y
  · subst e
    left
    rw [List.getElem?_set_self (by rw [h.1]; exact hy)]
    obtain ⟨e1, he1, hie⟩ := isD_step hD hgm
    rw [hr] at hie
    rcases h.2 r hy with ⟨e2, h1, h2⟩ | ⟨h1, h2, h3, h4⟩
    · rw [hv] at h1
      injection h1 with h1
      have := isD_uniq hie h2
      refine ⟨e2, by congr 1; omega, h2⟩
    · rw [hv] at h1
      injection h1 with h1
      refine ⟨e1, ?_, hie⟩
      have : e1 = d + 1 := by
        apply Classical.byContradiction
        intro hne
        obtain ⟨g', hg', u, m, hu, hm, hmd⟩ := isD_pred hie h2
        have hur := wn_in hsys ho m hm.1
        obtain ⟨t, rfl⟩ := Int.eq_ofNat_of_zero_le hur.1
        obtain ⟨b, hb, hby⟩ := List.mem_iff_getElem.1 (hall t (by omega))
        have hby' : O[b]? = some (t : Int) := by rw [List.getElem?_eq_getElem hb, hby]
        have hbi : b < i := by
          rcases Nat.lt_or_ge b i with h5 | h5
          · exact h5
          · have := ho.mono i b q t d m h5 hx hby' hD hm
            omega
        exact h3 b t hbi hby' g' hg' hu
      congr 1
      omega
  · rw [List.getElem?_set_ne e]
    rcases h.2 y hy with h1 | ⟨h1, h2, h3, h4⟩
    · exact .inl h1
    · refine .inr ⟨h1, h2, h3, fun x hx' g' hg' => ?_⟩
      rw [hx] at hx'
      injection hx' with hx'
      subst hx'
      rw [List.take_add_one, hg] at hg'
      rcases List.mem_append.1 hg' with h5 | h5
      · exact h4 _ hx g' h5
      · simp at h5; subst h5; rw [hr]; omega
theorem rinv_done {D : List Int} {i' : Nat} (ho : OInv xss n p i' O) (hall : ∀ y : Nat, y < n → (y : Int) ∈ O) (hsys : okSys n xss = true) (h : RInv xss n p O i 0 D) (hi : O.length ≤ i) : DOk xss n p D := by
  refine ⟨h.1, fun y hy => ?_⟩
  rcases h.2 y hy with h1 | ⟨h1, h2, h3, h4⟩
  · exact h1
  · exfalso
    obtain ⟨d, hd⟩ := ho.ex y (hall y hy)
    obtain ⟨g, hg, u, m, hu, hm, hmd⟩ := isD_pred hd h2
    have hur := wn_in hsys ho m hm.1
    obtain ⟨t, rfl⟩ := Int.eq_ofNat_of_zero_le hur.1
    obtain ⟨b, hb, hby⟩ := List.mem_iff_getElem.1 (hall t (by omega))
    exact h3 b t (by omega) (by rw [List.getElem?_eq_getElem hb, hby]) g hg hu
end
end Go.Proofs.Ytmgoaabeopnopaa
