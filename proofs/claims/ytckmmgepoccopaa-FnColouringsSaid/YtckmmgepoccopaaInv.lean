/- Lists of flags that move to and fro, and what the draws make of them. Plain facts. -/
import Derived.Test.YtckmmgepoccopaaIso
namespace Go.Proofs.Ytckmmgepoccopaa
open Go.RowKit

/-- A move: each flag goes to a flag that comes back. -/
def InvL (n : Nat) (xs : List Int) : Prop := xs.length = n ∧ ∀ x : Nat, x < n → ∃ y : Nat, y < n ∧ xs[x]? = some (y : Int) ∧ xs[y]? = some (x : Int)
/-- Moves on n flags. -/
structure OkI (n : Nat) (xss : List (List Int)) : Prop where
  inv : ∀ xs ∈ xss, InvL n xs
  n2 : 1 ≤ n
  n4 : n ≤ 400
  r1 : 1 ≤ xss.length
  r5 : xss.length ≤ 5
section
variable {n a b : Nat} {xs : List Int} {xss yss : List (List Int)}
theorem InvL.okP (h : InvL n xs) (hn : n ≤ 400) : okP xs = true := by
  refine decide_eq_true ⟨by rw [h.1]; exact hn, fun v hv => ?_, ?_⟩
  · obtain ⟨k, hk, rfl⟩ := List.mem_iff_getElem.1 hv
    rw [h.1] at hk
    obtain ⟨y, hy, h1, _⟩ := h.2 k hk
    have : xs[k]'(by rw [h.1]; exact hk) = (y : Int) := (List.getElem?_eq_some_iff.1 h1).2
    rw [this, h.1]
    omega
  · refine List.pairwise_iff_getElem.2 fun i j hi hj hij he => ?_
    have hl := h.1
    obtain ⟨y, hy, h1, h2⟩ := h.2 i (by omega)
    obtain ⟨z, hz, h3, h4⟩ := h.2 j (by omega)
    rw [List.getElem?_eq_getElem hi] at h1
    rw [List.getElem?_eq_getElem hj] at h3
    injection h1 with h1
    injection h3 with h3
    have : y = z := by omega
    subst this
    rw [h2] at h4
    injection h4 with h4
    omega
theorem inv_sys (h : ∀ xs ∈ xss, InvL n xs) (hn : n ≤ 400) (hl : xss.length ≤ 16) : okSys n xss = true :=
  decide_eq_true ⟨by omega, by omega, hl, fun xs hx => ⟨by have := (h xs hx).1; omega, (h xs hx).okP hn⟩⟩
theorem OkI.sys (h : OkI n xss) : okSys n xss = true := inv_sys h.inv h.n4 (by have := h.r5; omega)
theorem OkI.fl (h : OkI n xss) : flN xss = n := by
  cases hx : xss with
  | nil => have := h.r1; rw [hx] at this; simp at this
  | cons a r => exact (h.inv a (by rw [hx]; simp)).1
theorem OkI.rows (h : OkI n xss) : ∀ xs ∈ xss, (xs.length : Int) ≤ 1048576 := fun xs hx => by have := (h.inv xs hx).1; have := h.n4; omega
/-- A list that is told by a function that goes to and fro. -/
theorem invL_map {f : Nat → Nat} (h : ∀ x, x < n → f x < n ∧ f (f x) = x) : InvL n ((List.range n).map fun x => ((f x : Nat) : Int)) := by
  refine ⟨by simp, fun x hx => ⟨f x, (h x hx).1, by simp [hx], ?_⟩⟩
  have h1 := h x hx
  simp [h1.1, h1.2]
theorem dm {q r : Nat} (hr : r < b) : (q * b + r) / b = q ∧ (q * b + r) % b = r := by
  have hb : 0 < b := by omega
  constructor
  · rw [Nat.add_comm, Nat.add_mul_div_right _ _ hb, Nat.div_eq_of_lt hr, Nat.zero_add]
  · rw [Nat.add_comm, Nat.add_mul_mod_self_right, Nat.mod_eq_of_lt hr]
theorem dm_lt {q r : Nat} (hq : q < a) (hr : r < b) : q * b + r < a * b := by
  have h1 : (q + 1) * b ≤ a * b := Nat.mul_le_mul_right b hq
  rw [Nat.add_mul, Nat.one_mul] at h1
  omega
theorem dm_of {x : Nat} (hx : x < a * b) : x / b < a ∧ x % b < b ∧ x / b * b + x % b = x := by
  have hb : 0 < b := by
    apply Classical.byContradiction
    intro h
    have : b = 0 := by omega
    subst this
    simp at hx
  refine ⟨(Nat.div_lt_iff_lt_mul hb).2 hx, Nat.mod_lt _ hb, ?_⟩
  have := Nat.div_add_mod x b
  rw [Nat.mul_comm] at this
  exact this
/-- The moves of two maniplexes side by side. -/
def bes1 (a b : Nat) (m : List Int) : List Int := (List.range (a * b)).map fun (f : Nat) => fz m ((f / b : Nat) : Int) * (b : Int) + ((f % b : Nat) : Int)
def bes2 (a b : Nat) (m : List Int) : List Int := (List.range (a * b)).map fun (f : Nat) => ((f / b : Nat) : Int) * (b : Int) + fz m ((f % b : Nat) : Int)
def besL (a b : Nat) (xss yss : List (List Int)) : List (List Int) := xss.map (bes1 a b) ++ yss.map (bes2 a b)
theorem bes1_at {m : List Int} {x y : Nat} (hx : x < a * b) (hy : m[x / b]? = some (y : Int)) : (bes1 a b m)[x]? = some (((y * b + x % b : Nat)) : Int) := by
  simp only [bes1, List.getElem?_map, List.getElem?_range hx, Option.map_some, fz_at hy]
  simp
theorem bes2_at {m : List Int} {x y : Nat} (hx : x < a * b) (hy : m[x % b]? = some (y : Int)) : (bes2 a b m)[x]? = some (((x / b * b + y : Nat)) : Int) := by
  simp only [bes2, List.getElem?_map, List.getElem?_range hx, Option.map_some, fz_at hy]
  simp
theorem bes1_inv {m : List Int} (h : InvL a m) : InvL (a * b) (bes1 a b m) := by
  refine ⟨by simp [bes1], fun x hx => ?_⟩
  obtain ⟨h1, h2, h3⟩ := dm_of hx
  obtain ⟨y, hy, e1, e2⟩ := h.2 (x / b) h1
  have hd := dm (q := y) h2
  have hl := dm_lt hy h2
  refine ⟨y * b + x % b, hl, bes1_at hx e1, ?_⟩
  rw [bes1_at (y := x / b) hl (by rw [hd.1]; exact e2), hd.2, h3]
theorem bes2_inv {m : List Int} (h : InvL b m) : InvL (a * b) (bes2 a b m) := by
  refine ⟨by simp [bes2], fun x hx => ?_⟩
  obtain ⟨h1, h2, h3⟩ := dm_of hx
  obtain ⟨y, hy, e1, e2⟩ := h.2 (x % b) h2
  have hd := dm (q := x / b) hy
  have hl := dm_lt h1 hy
  refine ⟨x / b * b + y, hl, bes2_at hx e1, ?_⟩
  rw [bes2_at (y := x % b) hl (by rw [hd.2]; exact e2), hd.1, h3]
theorem besL_len : (besL a b xss yss).length = xss.length + yss.length := by simp [besL]
theorem besL_ok (h : OkI a xss) (k : OkI b yss) (hab : a * b ≤ 400) (hr : xss.length + yss.length ≤ 5) : OkI (a * b) (besL a b xss yss) := by
  refine ⟨fun xs hx => ?_, ?_, hab, by rw [besL_len]; have := h.r1; omega, by rw [besL_len]; exact hr⟩
  · rcases List.mem_append.1 hx with h1 | h1
    · obtain ⟨m, hm, rfl⟩ := List.mem_map.1 h1
      exact bes1_inv (h.inv m hm)
    · obtain ⟨m, hm, rfl⟩ := List.mem_map.1 h1
      exact bes2_inv (k.inv m hm)
  · exact Nat.mul_pos h.n2 k.n2
def edgeL : List (List Int) := [[1, 0]]
theorem edge_ok : OkI 2 edgeL := by
  refine ⟨fun xs hx => ?_, by decide, by decide, by decide, by decide⟩
  simp [edgeL] at hx
  subst hx
  refine ⟨rfl, fun x hx => ?_⟩
  match x, hx with
  | 0, _ => exact ⟨1, by decide, rfl, rfl⟩
  | 1, _ => exact ⟨0, by decide, rfl, rfl⟩
/-- The moves of a polygon. -/
def pg1 (f : Nat) : Nat := if f % 2 = 0 then f + 1 else f - 1
def pg2 (n f : Nat) : Nat := if f % 2 = 0 then (if f = 0 then n - 1 else f - 1) else (if f + 1 = n then 0 else f + 1)
def pgL (n : Nat) : List (List Int) := [(List.range n).map fun x => ((pg1 x : Nat) : Int), (List.range n).map fun x => ((pg2 n x : Nat) : Int)]
theorem pg_ok {p : Nat} (hp : 1 ≤ p) (hn : 2 * p ≤ 400) : OkI (2 * p) (pgL (2 * p)) := by
  refine ⟨fun xs hx => ?_, by omega, hn, by simp [pgL], by simp [pgL]⟩
  simp only [pgL, List.mem_cons, List.not_mem_nil, or_false] at hx
  rcases hx with rfl | rfl
  · refine invL_map fun x hx => ?_
    unfold pg1
    refine ⟨by split <;> omega, ?_⟩
    split <;> split <;> omega
  · refine invL_map fun x hx => ?_
    unfold pg2
    refine ⟨by split <;> split <;> omega, ?_⟩
    split <;> split <;> split <;> (try split) <;> omega
/-- The moves of the flags of edges. -/
theorem xor1_ok {e x : Nat} (hx : x < 4 * e) : x ^^^ 1 < 4 * e ∧ (x ^^^ 1) ^^^ 1 = x := by
  refine ⟨?_, by rw [Nat.xor_assoc]; simp⟩
  have h1 : (x ^^^ 1) >>> 2 = x >>> 2 := by rw [Nat.shiftRight_xor_distrib]; simp
  rw [Nat.shiftRight_eq_div_pow, Nat.shiftRight_eq_div_pow] at h1
  omega
theorem xor2_ok {e x : Nat} (hx : x < 4 * e) : x ^^^ 2 < 4 * e ∧ (x ^^^ 2) ^^^ 2 = x := by
  refine ⟨?_, by rw [Nat.xor_assoc]; simp⟩
  have h1 : (x ^^^ 2) >>> 2 = x >>> 2 := by rw [Nat.shiftRight_xor_distrib]; simp
  rw [Nat.shiftRight_eq_div_pow, Nat.shiftRight_eq_div_pow] at h1
  omega
def xoL (n k : Nat) : List Int := (List.range n).map fun x => ((x ^^^ k : Nat) : Int)
theorem xo1_inv {e : Nat} : InvL (4 * e) (xoL (4 * e) 1) := invL_map fun _ hx => xor1_ok hx
theorem xo2_inv {e : Nat} : InvL (4 * e) (xoL (4 * e) 2) := invL_map fun _ hx => xor2_ok hx
/-- The orbit of a flag, as a maniplex. -/
theorem sec_ok {f l : Nat} (h : OkI n xss) (hf : f < n) (hl : (orbL xss n f).length = l) : OkI l (secL xss n f) := by
  have hsys := h.sys
  obtain ⟨hpa, hfm, hcl⟩ := orb_facts hsys hf
  have hln := passed_len hpa
  obtain ⟨ord, hord⟩ : ∃ o, orbL xss n f = o := ⟨_, rfl⟩
  have hsec : secL xss n f = xss.map (secRow ord) := by rw [secL, hord]
  rw [hord] at hpa hfm hcl hl hln
  refine ⟨fun xs hx => ?_, by rw [← hl]; exact List.length_pos_of_mem hfm, by have := h.n4; omega, by rw [hsec, List.length_map]; exact h.r1, by rw [hsec, List.length_map]; exact h.r5⟩
  rw [hsec] at hx
  obtain ⟨m, hm, rfl⟩ := List.mem_map.1 hx
  have hinv := h.inv m hm
  refine ⟨by rw [secRow_len, hl], fun k hk => ?_⟩
  obtain ⟨x, hx⟩ : ∃ x, ord[k]? = some x := ⟨_, List.getElem?_eq_getElem (by omega)⟩
  have hxm := List.mem_of_getElem? hx
  have hxb := hpa.1 x hxm
  obtain ⟨x, rfl⟩ := Int.eq_ofNat_of_zero_le hxb.1
  obtain ⟨y, hy, e1, e2⟩ := hinv.2 x (by omega)
  have hgo := hcl m hm _ hxm
  rw [fz_at e1] at hgo
  have hgi := idxL_get hgo
  have hb := (idxL_bd ord (y : Int)).2
  have h0 : 0 ≤ idxL ord (y : Int) := by simpa [hgo] using idxL_mem ord (y : Int)
  obtain ⟨j, hj⟩ := Int.eq_ofNat_of_zero_le h0
  rw [hj] at hgi hb
  refine ⟨j, by omega, ?_, ?_⟩
  · simp [secRow, hx, fz_at e1, hj]
  · have : ord[j]? = some (y : Int) := by simpa using hgi
    simp [secRow, this, fz_at e2, idx_nodup hpa.2 hx]
end
end Go.Proofs.Ytckmmgepoccopaa
