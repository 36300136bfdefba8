/- Posets as ranks and lists below; plain facts, no program. -/
import Derived.Test.YtckmmgepoccopaaL4
namespace Go.Proofs.Ytckmmgepoccopaa

/-- A proposition as a Bool. -/
noncomputable def pB (p : Prop) : Bool := @decide p (Classical.propDecidable _)
theorem pB_iff {p : Prop} : pB p = true ↔ p := ⟨fun h => @of_decide_eq_true _ (Classical.propDecidable _) h, fun h => @decide_eq_true _ (Classical.propDecidable _) h⟩
theorem pB_true {p : Prop} (h : p) : pB p = true := pB_iff.2 h
theorem pB_false {p : Prop} (h : ¬ p) : pB p = false := @decide_eq_false _ (Classical.propDecidable _) h
theorem pB_no {p : Prop} (h : pB p = false) : ¬ p := fun hp => by rw [pB_true hp] at h; cases h

structure RanksOk (R : Int) (xs : List Int) (M : Nat) : Prop where
  r1 : 1 ≤ R
  r5 : R ≤ 5
  n : xs.length ≤ 500
  len : M = xs.length
  rk : ∀ (e : Nat) (x : Int), xs[e]? = some x → 0 ≤ x ∧ x < R
  asc : ∀ (e f : Nat) (x y : Int), e ≤ f → xs[e]? = some x → xs[f]? = some y → x ≤ y
/-- The first k ranks are in order; the last one of them is l. -/
structure RkTo (R : Int) (xs : List Int) (k : Nat) (l : Int) : Prop where
  z : k = 0 → l = 0
  last : 0 < k → xs[k - 1]? = some l
  rk : ∀ (e : Nat) (x : Int), e < k → xs[e]? = some x → 0 ≤ x ∧ x ≤ l ∧ x < R
  asc : ∀ (e f : Nat) (x y : Int), e ≤ f → f < k → xs[e]? = some x → xs[f]? = some y → x ≤ y
  nn : 0 ≤ l
section
variable {R : Int} {xs : List Int} {M k : Nat} {l r : Int}
theorem rkTo_start : RkTo R xs 0 0 := ⟨fun _ => rfl, fun h => absurd h (by omega), fun e x h => absurd h (by omega), fun e f x y _ h => absurd h (by omega), Int.le_refl _⟩
theorem rkTo_step (h : RkTo R xs k l) (hx : xs[k]? = some r) (h1 : l ≤ r) (h2 : r < R) : RkTo R xs (k + 1) r := by
  refine ⟨fun h => absurd h (by omega), fun _ => by simpa using hx, ?_, ?_, by have := h.nn; omega⟩
  · intro e x he hex
    rcases Nat.lt_succ_iff_lt_or_eq.1 he with h3 | rfl
    · have := h.rk e x h3 hex; omega
    · rw [hx] at hex; injection hex with hex; subst hex; have := h.nn; omega
  · intro e f x y hef hf hex hfy
    rcases Nat.lt_succ_iff_lt_or_eq.1 hf with h3 | rfl
    · exact h.asc e f x y hef h3 hex hfy
    · rw [hx] at hfy; injection hfy with hfy; subst hfy
      rcases Nat.lt_or_eq_of_le hef with h4 | rfl
      · have := h.rk e x h4 hex; omega
      · rw [hx] at hex; injection hex with hex; omega
theorem rkTo_bad (h : RkTo R xs k l) (hx : xs[k]? = some r) (h1 : r < l ∨ R ≤ r) : ¬ RanksOk R xs M := by
  intro ok
  have h2 := ok.rk k r hx
  rcases h1 with h1 | h1
  · by_cases hk : k = 0
    · have := h.z hk; omega
    · have := ok.asc (k - 1) k l r (by omega) (h.last (by omega)) hx; omega
  · omega
theorem rkTo_all (h : RkTo R xs k l) (hk : xs.length ≤ k) (h1 : 1 ≤ R) (h5 : R ≤ 5) (hn : xs.length ≤ 500) (hM : M = xs.length) : RanksOk R xs M := by
  have lt : ∀ {e : Nat} {x : Int}, xs[e]? = some x → e < k := fun he => by have := (List.getElem?_eq_some_iff.1 he).1; omega
  exact ⟨h1, h5, hn, hM, fun e x he => by have := h.rk e x (lt he) he; omega, fun e f x y hef he hf => h.asc e f x y hef (lt hf) he hf⟩
end

/-- d is an element of a lower rank than e. -/
def RowEl (xs : List Int) (e : Nat) (d : Int) : Prop := ∃ (j : Nat) (x y : Int), d = (j : Int) ∧ j < e ∧ xs[j]? = some x ∧ xs[e]? = some y ∧ x < y
structure RowOk (xs : List Int) (e : Nat) (b : List Int) : Prop where
  el : ∀ (i : Nat) (d : Int), b[i]? = some d → RowEl xs e d
  inc : ∀ (i j : Nat) (c d : Int), i < j → b[i]? = some c → b[j]? = some d → c < d
structure RowTo (xs : List Int) (e : Nat) (b : List Int) (k : Nat) (l : Int) : Prop where
  z : k = 0 → l = -1
  last : 0 < k → b[k - 1]? = some l
  el : ∀ (i : Nat) (d : Int), i < k → b[i]? = some d → RowEl xs e d ∧ d ≤ l
  inc : ∀ (i j : Nat) (c d : Int), i < j → j < k → b[i]? = some c → b[j]? = some d → c < d
  nn : -1 ≤ l
section
variable {xs b : List Int} {e k : Nat} {l d : Int}
theorem rowTo_start : RowTo xs e b 0 (-1) := ⟨fun _ => rfl, fun h => absurd h (by omega), fun e x h => absurd h (by omega), fun e f x y _ h => absurd h (by omega), Int.le_refl _⟩
theorem rowTo_step (h : RowTo xs e b k l) (hx : b[k]? = some d) (h1 : l < d) (h2 : RowEl xs e d) : RowTo xs e b (k + 1) d := by
  refine ⟨fun h => absurd h (by omega), fun _ => by simpa using hx, ?_, ?_, by have := h.nn; omega⟩
  · intro i c hi hc
    rcases Nat.lt_succ_iff_lt_or_eq.1 hi with h3 | rfl
    · have := h.el i c h3 hc; exact ⟨this.1, by omega⟩
    · rw [hx] at hc; injection hc with hc; subst hc; exact ⟨h2, Int.le_refl _⟩
  · intro i j c f hij hj hc hf
    rcases Nat.lt_succ_iff_lt_or_eq.1 hj with h3 | rfl
    · exact h.inc i j c f hij h3 hc hf
    · rw [hx] at hf; injection hf with hf; subst hf
      have := h.el i c hij hc; omega
theorem rowTo_bad (h : RowTo xs e b k l) (hx : b[k]? = some d) (h1 : d ≤ l) : ¬ RowOk xs e b := by
  intro ok
  by_cases hk : k = 0
  · have h2 := h.z hk
    obtain ⟨j, x, y, h3, _⟩ := ok.el k d hx
    omega
  · have := ok.inc (k - 1) k l d (by omega) (h.last (by omega)) hx; omega
theorem rowOk_bad (hx : b[k]? = some d) (h1 : ¬ RowEl xs e d) : ¬ RowOk xs e b := fun ok => h1 (ok.el k d hx)
theorem rowTo_all (h : RowTo xs e b k l) (hk : b.length ≤ k) : RowOk xs e b := by
  have lt : ∀ {i : Nat} {c : Int}, b[i]? = some c → i < k := fun he => by have := (List.getElem?_eq_some_iff.1 he).1; omega
  exact ⟨fun i d hi => (h.el i d (lt hi) hi).1, fun i j c d hij hi hj => h.inc i j c d hij (lt hj) hi hj⟩
theorem rowEl_of {R : Int} {M j : Nat} {x y : Int} (ok : RanksOk R xs M) (hd : d = (j : Int)) (hx : xs[j]? = some x) (hy : xs[e]? = some y) (hlt : x < y) : RowEl xs e d := by
  refine ⟨j, x, y, hd, ?_, hx, hy, hlt⟩
  rcases Nat.lt_or_ge j e with h | h
  · exact h
  · have := ok.asc e j y x h hy hx; omega
end
def RowsOk (xs : List Int) (bss : List (List Int)) : Prop := ∀ (e : Nat) (b : List Int), bss[e]? = some b → RowOk xs e b
/-- What is below an element of b is in b. -/
def TrEl (bss : List (List Int)) (b : List Int) (d : Int) : Prop := ∀ (j : Nat) (r : List Int), d = (j : Int) → bss[j]? = some r → ∀ c ∈ r, c ∈ b
def TrOk (bss : List (List Int)) : Prop := ∀ (e : Nat) (b : List Int), bss[e]? = some b → ∀ d ∈ b, TrEl bss b d
structure OkPos (R : Int) (xs : List Int) (bss : List (List Int)) : Prop where
  ranks : RanksOk R xs bss.length
  rows : RowsOk xs bss
  tr : TrOk bss
noncomputable abbrev posB (R : Int) (xs : List Int) (bss : List (List Int)) : Bool := pB (OkPos R xs bss)

section
variable {R : Int} {xs : List Int} {bss : List (List Int)}
theorem OkPos.el (h : OkPos R xs bss) {e : Nat} {b : List Int} {d : Int} (hb : bss[e]? = some b) (hd : d ∈ b) : ∃ (j : Nat) (x y : Int), d = (j : Int) ∧ j < e ∧ xs[j]? = some x ∧ xs[e]? = some y ∧ x < y := by
  obtain ⟨i, hi, rfl⟩ := List.mem_iff_getElem.1 hd
  exact (h.rows e b hb).el i _ (List.getElem?_eq_getElem hi)
theorem RowsOk.bd (h : RowsOk xs bss) {e : Nat} {b : List Int} {d : Int} (hb : bss[e]? = some b) (hd : d ∈ b) : ∃ j : Nat, d = (j : Int) ∧ j < e ∧ j < xs.length := by
  obtain ⟨i, hi, rfl⟩ := List.mem_iff_getElem.1 hd
  obtain ⟨j, x, y, h1, h2, h3, _⟩ := (h e b hb).el i _ (List.getElem?_eq_getElem hi)
  exact ⟨j, h1, h2, (List.getElem?_eq_some_iff.1 h3).1⟩
end
end Go.Proofs.Ytckmmgepoccopaa
