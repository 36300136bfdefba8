import Derived.Test.YtmgoaabeopnopaaL4
import Derived.Test.YtmgoaabeopnopaaL13
import Derived.Test.YtmgoaabeopnopaaL11
import Derived.Test.YtmgoaabeopnopaaL12
/- Posets as ranks and lists below; plain facts, no program. -/
namespace Go.Proofs.Ytmgoaabeopnopaa

/-- A proposition as a Bool. -/
noncomputable def pB (p : Prop) : Bool := @decide p (Classical.propDecidable _)
theorem pB_iff {p : Prop} : pB p = true ↔ p := ⟨fun h => @of_decide_eq_true _ (Classical.propDecidable _) h, fun h => @decide_eq_true _ (Classical.propDecidable _) h⟩
theorem pB_true {p : Prop} (h : p) : pB p = true := pB_iff.2 h
theorem pB_false {p : Prop} (h : ¬ p) : pB p = false := @decide_eq_false _ (Classical.propDecidable _) h
theorem pB_no {p : Prop} (h : pB p = false) : ¬ p := fun hp => by rw [pB_true hp] at h; cases h

structure RanksOk (R : Int) (xs : List Int) (M : Nat) : Prop where
  r1 : 1 ≤ R
  r5 : R ≤ 5
  n : xs.length ≤ 500
  len : M = xs.length
  rk : ∀ (e : Nat) (x : Int), xs[e]? = some x → 0 ≤ x ∧ x < R
  asc : ∀ (e f : Nat) (x y : Int), e ≤ f → xs[e]? = some x → xs[f]? = some y → x ≤ y
/-- The first k ranks are in order; the last one of them is l. -/
structure RkTo (R : Int) (xs : List Int) (k : Nat) (l : Int) : Prop where
  z : k = 0 → l = 0
  last : 0 < k → xs[k - 1]? = some l
  rk : ∀ (e : Nat) (x : Int), e < k → xs[e]? = some x → 0 ≤ x ∧ x ≤ l ∧ x < R
  asc : ∀ (e f : Nat) (x y : Int), e ≤ f → f < k → xs[e]? = some x → xs[f]? = some y → x ≤ y
  nn : 0 ≤ l
section
variable {R : Int} {xs : List Int} {M k : Nat} {l r : Int}
theorem rkTo_start : RkTo R xs 0 0 := ⟨fun _ => rfl, fun h => absurd h (by omega), fun e x h => absurd h (by omega), fun e f x y _ h => absurd h (by omega), Int.le_refl _⟩
theorem rkTo_step (h : RkTo R xs k l) (hx : xs[k]? = some r) (h1 : l ≤ r) (h2 : r < R) : RkTo R xs (k + 1) r := by
  refine ⟨fun h => absurd h (by omega), fun _ => by simpa using hx, ?_, ?_, by have := h.nn; omega⟩
  · intro e x he hex
    rcases Nat.lt_succ_iff_lt_or_eq.1 he with h3 | rfl
    · have := h.rk e x h3 hex; omega
    · rw [hx] at hex; injection hex with hex; subst hex; have := h.nn; omega
  · intro e f x y hef hf hex hfy
    rcases Nat.lt_succ_iff_lt_or_eq.1 hf with h3 | rfl
    · exact h.asc e f x y hef h3 hex hfy
    · rw [hx] at hfy; injection hfy with hfy; subst hfy
      rcases Nat.lt_or_eq_of_le hef with h4 | rfl
      · have := h.rk e x h4 hex; omega
      · rw [hx] at hex; injection hex with hex; omega
theorem rkTo_bad (h : RkTo R xs k l) (hx : xs[k]? = some r) (h1 : r < l ∨ R ≤ r) : ¬ RanksOk R xs M := by
  intro ok
  have h2 := ok.rk k r hx
  rcases h1 with h1 | h1
  · by_cases hk : k = 0
    · have := h.z hk; omega
    · have := ok.asc (k - 1) k l r (by omega) (h.last (by omega)) hx; omega
  · omega
theorem rkTo_all (h : RkTo R xs k l) (hk : xs.length ≤ k) (h1 : 1 ≤ R) (h5 : R ≤ 5) (hn : xs.length ≤ 500) (hM : M = xs.length) : RanksOk R xs M := by
  have lt : ∀ {e : Nat} {x : Int}, xs[e]? = some x → e < k := fun he => by have := (List.getElem?_eq_some_iff.1 he).1; omega
  exact ⟨h1, h5, hn, hM, fun e x he => by have := h.rk e x (lt he) he; omega, fun e f x y hef he hf => h.asc e f x y hef (lt hf) he hf⟩
end

/-- d is an element of a lower rank than e. -/
def RowEl (xs : List Int) (e : Nat) (d : Int) : Prop := ∃ (j : Nat) (x y : Int), d = (j : Int) ∧ j < e ∧ xs[j]? = some x ∧ xs[e]? = some y ∧ x < y
structure RowOk (xs : List Int) (e : Nat) (b : List Int) : Prop where
  el : ∀ (i : Nat) (d : Int), b[i]? = some d → RowEl xs e d
  inc : ∀ (i j : Nat) (c d : Int), i < j → b[i]? = some c → b[j]? = some d → c < d
structure RowTo (xs : List Int) (e : Nat) (b : List Int) (k : Nat) (l : Int) : Prop where
  z : k = 0 → l = -1
  last : 0 < k → b[k - 1]? = some l
  el : ∀ (i : Nat) (d : Int), i < k → b[i]? = some d → RowEl xs e d ∧ d ≤ l
  inc : ∀ (i j : Nat) (c d : Int), i < j → j < k → b[i]? = some c → b[j]? = some d → c < d
  nn : -1 ≤ l
section
variable {xs b : List Int} {e k : Nat} {l d : Int}
theorem rowTo_start : RowTo xs e b 0 (-1) := ⟨fun _ => rfl, fun h => absurd h (by omega), fun e x h => absurd h (by omega), fun e f x y _ h => absurd h (by omega), Int.le_refl _⟩
theorem rowTo_step (h : RowTo xs e b k l) (hx : b[k]? = some d) (h1 : l < d) (h2 : RowEl xs e d) : RowTo xs e b (k + 1) d := by
  refine ⟨fun h => absurd h (by omega), fun _ => by simpa using hx, ?_, ?_, by have := h.nn; omega⟩
  · intro i c hi hc
    rcases Nat.lt_succ_iff_lt_or_eq.1 hi with h3 | rfl
    · have := h.el i c h3 hc; exact ⟨this.1, by omega⟩
    · rw [hx] at hc; injection hc with hc; subst hc; exact ⟨h2, Int.le_refl _⟩
  · intro i j c f hij hj hc hf
    rcases Nat.lt_succ_iff_lt_or_eq.1 hj with h3 | rfl
    · exact h.inc i j c f hij h3 hc hf
    · rw [hx] at hf; injection hf with hf; subst hf
      have := h.el i c hij hc; omega
theorem rowTo_bad (h : RowTo xs e b k l) (hx : b[k]? = some d) (h1 : d ≤ l) : ¬ RowOk xs e b := by
  intro ok
  by_cases hk : k = 0
  · have h2 := h.z hk
    obtain ⟨j, x, y, h3, _⟩ := ok.el k d hx
    omega
  · have := ok.inc (k - 1) k l d (by omega) (h.last (by omega)) hx; omega
theorem rowOk_bad (hx : b[k]? = some d) (h1 : ¬ RowEl xs e d) : ¬ RowOk xs e b := fun ok => h1 (ok.el k d hx)
theorem rowTo_all (h : RowTo xs e b k l) (hk : b.length ≤ k) : RowOk xs e b := by
  have lt : ∀ {i : Nat} {c : Int}, b[i]? = some c → i < k := fun he => by have := (List.getElem?_eq_some_iff.1 he).1; omega
  exact ⟨fun i d hi => (h.el i d (lt hi) hi).1, fun i j c d hij hi hj => h.inc i j c d hij (lt hj) hi hj⟩
theorem rowEl_of {R : Int} {M j : Nat} {x y : Int} (ok : RanksOk R xs M) (hd : d = (j : Int)) (hx : xs[j]? = some x) (hy : xs[e]? = some y) (hlt : x < y) : RowEl xs e d := by
  refine ⟨j, x, y, hd, ?_, hx, hy, hlt⟩
  rcases Nat.lt_or_ge j e with h | h
  · exact h
  · have := ok.asc e j y x h hy hx; omega
end
def RowsOk (xs : List Int) (bss : List (List Int)) : Prop := ∀ (e : Nat) (b : List Int), bss[e]? = some b → RowOk xs e b
/-- What is below an element of b is in b. -/
def TrEl (bss : List (List Int)) (b : List Int) (d : Int) : Prop := ∀ (j : Nat) (r : List Int), d = (j : Int) → bss[j]? = some r → ∀ c ∈ r, c ∈ b
def TrOk (bss : List (List Int)) : Prop := ∀ (e : Nat) (b : List Int), bss[e]? = some b → ∀ d ∈ b, TrEl bss b d
structure OkPos (R : Int) (xs : List Int) (bss : List (List Int)) : Prop where
  ranks : RanksOk R xs bss.length
  rows : RowsOk xs bss
  tr : TrOk bss
noncomputable abbrev posB (R : Int) (xs : List Int) (bss : List (List Int)) : Bool := pB (OkPos R xs bss)

section
variable {R : Int} {xs : List Int} {bss : List (List Int)}
theorem OkPos.el (h : OkPos R xs bss) {e : Nat} {b : List Int} {d : Int} (hb : bss[e]? = some b) (hd : d ∈ b) : ∃ (j : Nat) (x y : Int), d = (j : Int) ∧ j < e ∧ xs[j]? = some x ∧ xs[e]? = some y ∧ x < y := by
  obtain ⟨i, hi, rfl⟩ := List.mem_iff_getElem.1 hd
  exact (h.rows e b hb).el i _ (List.getElem?_eq_getElem hi)
theorem RowsOk.bd (h : RowsOk xs bss) {e : Nat} {b : List Int} {d : Int} (hb : bss[e]? = some b) (hd : d ∈ b) : ∃ j : Nat, d = (j : Int) ∧ j < e ∧ j < xs.length := by
  obtain ⟨i, hi, rfl⟩ := List.mem_iff_getElem.1 hd
  obtain ⟨j, x, y, h1, h2, h3, _⟩ := (h e b hb).el i _ (List.getElem?_eq_getElem hi)
  exact ⟨j, h1, h2, (List.getElem?_eq_some_iff.1 h3).1⟩
end
end Go.Proofs.Ytmgoaabeopnopaa
/- spec.SmallestPolygons. -/
namespace Go.Proofs.Ytmgoaabeopnopaa
open Go.RowKit

noncomputable def spL (xss : List (List Int)) (n M : Nat) : List Int := (List.range M).map fun (i : Nat) => (polL ((xss.drop i).take 2) n).headD 0
noncomputable def spR (xss : List (List Int)) : List Int := if okMan xss = true then spL xss (flN xss) (xss.length - 1) else []
noncomputable def spC (xss : List (List Int)) : Int := if okMan xss = true then 0 else 1
theorem spR_le (xss : List (List Int)) : (spR xss).length ≤ 1048576 := by
  unfold spR
  split
  · rename_i h
    have := (okMan_iff.1 h).r5
    simp [spL]
    omega
  · simp
theorem polL_head {yss : List (List Int)} {n : Nat} (hn : 0 < n) : (polL yss n)[0]? = some ((polL yss n).headD 0) := by
  have hm : (((orbL yss n ((0 : Nat) : Int)).length : Int) / 2) ∈ polL yss n := by
    unfold polL
    rw [(sortL_perm _).mem_iff, ddTo_mem]
    exact ⟨0, hn, rfl⟩
  cases h : polL yss n with
  | nil => rw [h] at hm; simp at hm
  | cons a l => rfl
theorem spL_succ {xss : List (List Int)} {n M k : Nat} (h : k < M) : (spL xss n M).take (k + 1) = (spL xss n M).take k ++ [(polL ((xss.drop k).take 2) n).headD 0] := by
  rw [List.take_add_one]
  simp [spL, h]

end Go.Proofs.Ytmgoaabeopnopaa
/- spec.IsLocallySpherical. -/
namespace Go.Proofs.Ytmgoaabeopnopaa
open Go.RowKit

theorem idxL_get {ord : List Int} {x : Int} (hx : x ∈ ord) : ord[(idxL ord x).toNat]? = some x := by
  unfold idxL
  split
  · rename_i k h
    rw [List.findIdx?_eq_some_iff_getElem] at h
    obtain ⟨hk, h1, _⟩ := h
    have : ord[k] = x := by simpa using h1
    simp [hk, this]
  · rename_i h
    rw [List.findIdx?_eq_none_iff] at h
    have := h x hx
    simp at this
theorem idxL_inj {ord : List Int} {x y : Int} (hx : x ∈ ord) (hy : y ∈ ord) (h : idxL ord x = idxL ord y) : x = y := by
  have h1 := idxL_get hx
  rw [h, idxL_get hy] at h1
  injection h1 with h1
  exact h1.symm
section
variable {yss : List (List Int)} {n f l : Nat}
theorem secL_sys (hsys : okSys n yss = true) (hf : f < n) (hl : (orbL yss n f).length = l) : okSys l (secL yss n f) = true := by
  obtain ⟨hpa, hfm, hcl⟩ := orb_facts hsys hf
  have hp := sys_parts hsys
  have hln := passed_len hpa
  refine decide_eq_true ⟨by omega, by omega, by rw [secL_len]; exact hp.2.2.1, fun xs hx => ?_⟩
  obtain ⟨m, hm, rfl⟩ := List.mem_map.1 hx
  have hml := (hp.2.2.2 m hm).1
  have hok := (hp.2.2.2 m hm).2
  refine ⟨by rw [secRow_len, hl], decide_eq_true ⟨by rw [secRow_len]; omega, ?_, ?_⟩⟩
  · intro x hx
    rw [secRow_len]
    obtain ⟨y, hy, rfl⟩ := List.mem_map.1 hx
    have h1 := hcl m hm y hy
    have h2 := idxL_bd (orbL yss n f) (fz m y)
    have h3 := idxL_mem (orbL yss n f) (fz m y)
    have h4 : 0 ≤ idxL (orbL yss n f) (fz m y) := by simpa [h1] using h3
    omega
  · unfold secRow
    refine List.pairwise_map.2 (List.Pairwise.imp_of_mem ?_ hpa.2)
    intro a b ha hb hab h
    have h1 := idxL_inj (hcl m hm a ha) (hcl m hm b hb) h
    have ka := hpa.1 a ha
    have kb := hpa.1 b hb
    exact hab (fz_inj (n := n) (by omega) hok ka.1 ka.2 kb.1 kb.2 h1)
end
noncomputable def secChi (xss : List (List Int)) (n f i : Nat) : Int := eulTo (cntTo (secL ((xss.drop i).take 3) n f) (orbL ((xss.drop i).take 3) n f).length 3) 3
def SphTo (xss : List (List Int)) (n i f : Nat) : Prop := (∀ i' f', i' < i → f' < n → secChi xss n f' i' = 2) ∧ ∀ f', f' < f → secChi xss n f' i = 2
noncomputable def lsB (xss : List (List Int)) : Bool := okMan xss && pB (3 ≤ xss.length ∧ (3 < xss.length → ∀ i f, i + 2 < xss.length → f < flN xss → secChi xss (flN xss) f i = 2))
noncomputable def lsC (xss : List (List Int)) : Int := if okMan xss = true then (if xss.length < 3 then 5 else 0) else 1
theorem sph_next {xss : List (List Int)} {n i f : Nat} (h : SphTo xss n i f) (hf : n ≤ f) : SphTo xss n (i + 1) 0 :=
  ⟨fun i' f' h1 h2 => by
    by_cases hi : i' < i
    · exact h.1 i' f' hi h2
    · obtain rfl : i' = i := by omega
      exact h.2 f' (by omega), fun f' h1 => by omega⟩
theorem sph_step {xss : List (List Int)} {n i f : Nat} (h : SphTo xss n i f) (hf : secChi xss n f i = 2) : SphTo xss n i (f + 1) :=
  ⟨h.1, fun f' h1 => by
    by_cases hi : f' < f
    · exact h.2 f' hi
    · obtain rfl : f' = f := by omega
      exact hf⟩

end Go.Proofs.Ytmgoaabeopnopaa
/- Each flag of a section leads to all of its flags. -/
namespace Go.Proofs.Ytmgoaabeopnopaa
open Go.RowKit

section
variable {yss : List (List Int)} {n f l q : Nat}
theorem secL_all (hsys : okSys n yss = true) (hf : f < n) (hl : (orbL yss n f).length = l) (hq : q < l) : (orbL (secL yss n f) l q).length = l := by
  obtain ⟨hpa, hfm, hcl⟩ := orb_facts hsys hf
  have hks := secL_sys hsys hf hl
  obtain ⟨hpo, hqm, hclo⟩ := orb_facts hks hq
  obtain ⟨ord, hord⟩ : ∃ ord, orbL yss n f = ord := ⟨_, rfl⟩
  obtain ⟨O, hO⟩ : ∃ O, orbL (secL yss n f) l q = O := ⟨_, rfl⟩
  rw [hO] at hpo hqm hclo ⊢
  rw [hord] at hpa hfm hcl hl
  have hat : ∀ j : Nat, j < l → ∃ x, ord[j]? = some x := fun j hj => ⟨_, List.getElem?_eq_getElem (by omega)⟩
  -- the points that the flags of O stand for
  let S : List Int := O.map fun j => ord.getD j.toNat 0
  have hS : ∀ x, x ∈ S ↔ ∃ j : Nat, (j : Int) ∈ O ∧ ord[j]? = some x := by
    intro x
    constructor
    · intro hx
      obtain ⟨j, hj, rfl⟩ := List.mem_map.1 hx
      have hb := hpo.1 j hj
      obtain ⟨j, rfl⟩ := Int.eq_ofNat_of_zero_le hb.1
      obtain ⟨x, hx⟩ := hat j (by omega)
      exact ⟨j, hj, by simp [hx]⟩
    · rintro ⟨j, hj, hx⟩
      exact List.mem_map.2 ⟨j, hj, by simp [hx]⟩
  have hSc : Closed yss S := by
    intro g hg x hx
    obtain ⟨j, hj, hxj⟩ := (hS x).1 hx
    have hxm := List.mem_of_getElem? hxj
    have hgx := hcl g hg x hxm
    have hrow : secRow ord g ∈ secL yss n f := List.mem_map.2 ⟨g, hg, by rw [hord]⟩
    have h1 := hclo _ hrow _ hj
    have h2 : fz (secRow ord g) (j : Int) = idxL ord (fz g x) := fz_at (by simp [secRow, hxj])
    rw [h2] at h1
    have h3 := idxL_get hgx
    have hb := hpo.1 _ h1
    refine (hS _).2 ⟨(idxL ord (fz g x)).toNat, ?_, h3⟩
    rw [Int.toNat_of_nonneg hb.1]
    exact h1
  obtain ⟨p, hp⟩ := hat q hq
  have hpb := hpa.1 p (List.mem_of_getElem? hp)
  obtain ⟨p, rfl⟩ := Int.eq_ofNat_of_zero_le hpb.1
  have hpn : p < n := by omega
  have hpS : (p : Int) ∈ S := (hS _).2 ⟨q, hqm, hp⟩
  have hsub := orb_sub (n := n) hSc hpS
  -- the first flag is led to from p
  have hfS : (f : Int) ∈ S := by
    apply hsub
    apply Classical.byContradiction
    intro hno
    obtain ⟨ppa, ppm, pcl⟩ := orb_facts hsys hpn
    have o2 := (orb_aside hsys ppa pcl hf hno).2.1
    rw [hord] at o2
    exact (List.nodup_append.1 o2.2).2.2 _ ppm _ (List.mem_of_getElem? hp) rfl
  have hall := orb_sub (n := n) hSc hfS
  rw [hord] at hall
  refine len_all (fun k hk => ?_) hpo
  obtain ⟨x, hx⟩ := hat k hk
  obtain ⟨j, hj, hxj⟩ := (hS x).1 (hall x (List.mem_of_getElem? hx))
  have h1 := (List.getElem?_eq_some_iff.1 hx)
  have h2 := (List.getElem?_eq_some_iff.1 hxj)
  have := (List.getElem_inj hpa.2).1 (h1.2.trans h2.2.symm)
  subst this
  exact hj
end
end Go.Proofs.Ytmgoaabeopnopaa
