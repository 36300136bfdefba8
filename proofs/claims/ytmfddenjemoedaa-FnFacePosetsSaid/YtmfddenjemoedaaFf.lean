/- impl.Maniplex.facesOfFlags: what holds while the faces are gathered; facts outside the walk. -/
import Derived.Test.YtmfddenjemoedaaRep
import Derived.Test.YtmfddenjemoedaaL12
import Derived.Test.YtmfddenjemoedaaPr
import Derived.Test.YtmfddenjemoedaaL11
namespace Go.Proofs.Ytmfddenjemoedaa
open Go.RowKit

/-- Rows, and a list apart from them. -/
structure FaS (w1 wr : World) (hi m c5 n : Nat) (A5 : Option Addr) (rs : List Int) (rows : List (List Int)) : Prop where
  r : wr.ownsRow w1.heap.size 2 1 (.slice A5 m c5) m (ints rs)
  rin : InB (.slice A5 m c5) w1.heap.size hi
  s : OwnSS wr w1.heap.size hi 24 (some ⟨w1.heap.size, 0, none⟩) n n rows
  ap : Apart wr w1.heap.size 24 (some ⟨w1.heap.size, 0, none⟩) n n (.slice A5 m c5)
  hi : hi ≤ wr.heap.size
section
variable {w1 wr w4 : World} {hi m c5 n : Nat} {A5 : Option Addr} {rs : List Int} {rows : List (List Int)}
theorem FaS.lo (h : FaS w1 wr hi m c5 n A5 rs rows) : w1.heap.size < hi := (ownSS_lo h.s).2
theorem FaS.go (h : FaS w1 wr hi m c5 n A5 rs rows) (hb : Below wr.heap.size wr w4) : FaS w1 w4 hi m c5 n A5 rs rows :=
  ⟨own_below h.r hb (Nat.le_refl _), h.rin, ownSS_below h.s hb (Nat.le_refl _), by obtain ⟨vals, a, b⟩ := h.ap; exact ⟨vals, own_below a hb (Nat.le_refl _), b⟩, Nat.le_trans h.hi hb.size⟩
theorem FaS.push {k c1 c4 : Nat} {A1 A4 : Option Addr} {xs : List Int} {x : Int} {o : Obj} (h : FaS w1 wr hi m c5 n A5 rs rows) (hx : rows[k]? = some xs)
    (hrow : ∀ vals : List Value, wr.ownsRow w1.heap.size 24 1 (.slice (some ⟨w1.heap.size, 0, none⟩) n n) n vals → vals[k]? = some (.slice A1 xs.length c1))
    (hor : wr.ownsRow w1.heap.size 2 1 (.slice A1 xs.length c1) xs.length (ints xs))
    (own4 : w4.ownsRow w1.heap.size 2 1 (.slice A4 (xs.length + 1) c4) (xs.length + 1) (ints xs ++ [.int .i64 x])) (gr : (wr.alloc o).grownBy w4 (Value.slice A1 xs.length c1).ownBlock)
    (hat : (Value.slice A4 (xs.length + 1) c4).ownBlock = (Value.slice A1 xs.length c1).ownBlock ∨ (Value.slice A4 (xs.length + 1) c4).ownBlock = some (wr.heap.size + 1)) :
    (w4.frozen? ⟨w1.heap.size, k, none⟩ = false ∧ ∃ u, w4.cell? ⟨w1.heap.size, k, none⟩ = some u) ∧ FaS w1 (w4.setCell ⟨w1.heap.size, k, none⟩ (.slice A4 (xs.length + 1) c4)) w4.heap.size m c5 n A5 rs (rows.set k (xs ++ [x])) ∧
      Turns w1.heap.size hi wr (w4.setCell ⟨w1.heap.size, k, none⟩ (.slice A4 (xs.length + 1) c4)) := by
  obtain ⟨a1, a2, a3, a4⟩ := ownSS_pushrow (o := o) h.s (by decide) hx h.hi hrow own4 gr hat
  have hgz := gr.size
  simp at hgz
  have hh := h.hi
  obtain ⟨vals, q1, q2⟩ := h.ap
  have hk := hrow vals q1
  have r1 := (h.r.alloc o).kept gr (by
    cases hb : (Value.slice A5 m c5).ownBlock with
    | none => exact .inl rfl
    | some g => exact .inr fun e => q2 k _ hk g e.symm hb)
  have o1 := (q1.alloc o).kept gr (own_ne (q1.alloc o) (hor.alloc o) (by decide))
  have hst := o1.stored k (.slice A4 (xs.length + 1) c4)
  have r2 := r1.kept hst.2 (own_ne r1 o1 (by decide))
  refine ⟨⟨a2, a3⟩, ⟨r2, inB_wide h.rin (Nat.le_refl _) (by omega), a1, ⟨vals.set k (.slice A4 (xs.length + 1) c4), hst.1, fun j u hu b hb hbb => ?_⟩, by simp⟩, a4⟩
  by_cases ej : k = j
  · subst ej
    have hvl : k < vals.length := (List.getElem?_eq_some_iff.1 hk).1
    rw [List.getElem?_set_self hvl] at hu
    injection hu with hu
    subst hu
    rcases hat with e | e
    · rw [e] at hb
      exact q2 k _ hk b hb hbb
    · rw [e] at hb
      injection hb with hb
      have := h.rin b hbb
      omega
  · rw [List.getElem?_set_ne ej] at hu
    exact q2 j u hu b hb hbb
theorem FaS.cat {q c6 : Nat} {A6 : Option Addr} {us : List Int} (h : FaS w1 wr hi m c5 n A5 rs rows)
    (own4 : w4.ownsRow w1.heap.size 2 1 (.slice A6 (m + q) c6) (m + q) (ints rs ++ ints us)) (gr : wr.grownBy w4 (Value.slice A5 m c5).ownBlock)
    (hat : (Value.slice A6 (m + q) c6).ownBlock = (Value.slice A5 m c5).ownBlock ∨ (Value.slice A6 (m + q) c6).ownBlock = some wr.heap.size) :
    FaS w1 w4 w4.heap.size (m + q) c6 n A6 (rs ++ us) rows ∧ Turns w1.heap.size hi wr w4 := by
  have hgz := gr.size
  have hh := h.hi
  have s4 := ownSS_kept h.s (by decide) h.r gr h.ap
  obtain ⟨vals, q1, q2⟩ := h.ap
  obtain ⟨vals2, a1, a2, a3, a4, a5⟩ := h.s
  obtain rfl := row_unique a1 q1
  refine ⟨⟨by simpa [ints] using own4, own_in own4, ownSS_wide s4 (Nat.le_refl _) (by omega), ⟨vals2, q1.kept gr (own_ne q1 h.r (by decide)), fun j u hu k hk hkk => ?_⟩, Nat.le_refl _⟩, Turns.of_grown gr h.rin⟩
  rcases hat with e | e
  · rw [e] at hkk
    exact q2 j u hu k hk hkk
  · rw [e] at hkk
    injection hkk with hkk
    have hjl : j < rows.length := by have := (List.getElem?_eq_some_iff.1 hu).1; have := a1.1; omega
    obtain ⟨A2, c2, e2, o2, p2⟩ := a4 j _ (List.getElem?_eq_getElem hjl)
    rw [hu] at e2
    injection e2 with e2
    subst e2
    have := p2 k hk
    omega
end

theorem FaS.wide {w1 wr : World} {hi m c5 n hi' : Nat} {A5 : Option Addr} {rs : List Int} {rows : List (List Int)} (h : FaS w1 wr hi m c5 n A5 rs rows) (h1 : hi ≤ hi') (h2 : hi' ≤ wr.heap.size) : FaS w1 wr hi' m c5 n A5 rs rows :=
  ⟨h.r, inB_wide h.rin (Nat.le_refl _) h1, ownSS_wide h.s (Nat.le_refl _) h1, h.ap, h2⟩
/-- Another list that lies behind all rows. -/
theorem FaS.other {w1 wr : World} {hi m c5 n q c3 bc : Nat} {A5 A3 : Option Addr} {rs L : List Int} {rows : List (List Int)} (h : FaS w1 wr hi m c5 n A5 rs rows) (hL : wr.ownsRow bc 2 1 (.slice A3 q c3) q (ints L)) (hbc : hi ≤ bc) : FaS w1 wr wr.heap.size q c3 n A3 L rows := by
  have hlo := h.lo
  have hin := own_in hL
  refine ⟨own_base hL (by omega), inB_wide hin (by omega) (Nat.le_refl _), ownSS_wide h.s (Nat.le_refl _) h.hi, ?_, Nat.le_refl _⟩
  obtain ⟨vals, a1, a2, a3, a4, a5⟩ := h.s
  refine ⟨vals, a1, fun j u hu k hk hkk => ?_⟩
  have hjl : j < rows.length := by have := (List.getElem?_eq_some_iff.1 hu).1; have := a1.1; omega
  obtain ⟨A2, c2, e2, o2, p2⟩ := a4 j _ (List.getElem?_eq_getElem hjl)
  rw [hu] at e2
  injection e2 with e2
  subst e2
  have := p2 k hk
  have := hin k hkk
  omega

/-- How many faces there are of the rank i. -/
def cN (xss : List (List Int)) (n i : Nat) : Nat := (grtL (facL xss n i)).toNat
/-- The first element of the rank k. -/
def fstE (xss : List (List Int)) (n : Nat) : Nat → Nat
  | 0 => 0
  | k + 1 => fstE xss n k + cN xss n k
/-- The faces of the ranks below k of the flag f. -/
def fcRow (xss : List (List Int)) (n k f : Nat) : List Int := (List.range k).map fun (i : Nat) => (fstE xss n i : Int) + (facL xss n i).getD f 0
/-- The ranks of the elements of the ranks below k. -/
def rkL (xss : List (List Int)) (n : Nat) : Nat → List Int
  | 0 => []
  | k + 1 => rkL xss n k ++ List.replicate (cN xss n k) (k : Int)
def fcSt (xss : List (List Int)) (n k t : Nat) : List (List Int) := (List.range n).map fun (f : Nat) => fcRow xss n (if f < t then k + 1 else k) f
section
variable {xss : List (List Int)} {n k t f : Nat}
theorem fcRow_succ : fcRow xss n (k + 1) f = fcRow xss n k f ++ [(fstE xss n k : Int) + (facL xss n k).getD f 0] := by
  unfold fcRow
  rw [List.range_succ, List.map_append]
  rfl
theorem fcRow_len : (fcRow xss n k f).length = k := by simp [fcRow]
theorem rkL_len : (rkL xss n k).length = fstE xss n k := by
  induction k with
  | zero => rfl
  | succ k ih => simp [rkL, fstE, ih]
theorem fcSt_zero : fcSt xss n 0 0 = List.replicate n [] := by
  apply List.ext_getElem?
  intro i
  by_cases h : i < n
  · simp [fcSt, h, fcRow]
  · simp [fcSt, h]
theorem fcSt_at (h : f < n) : (fcSt xss n k t)[f]? = some (fcRow xss n (if f < t then k + 1 else k) f) := by simp [fcSt, h]
theorem fcSt_set (h : t < n) : (fcSt xss n k t).set t (fcRow xss n (k + 1) t) = fcSt xss n k (t + 1) := by
  apply List.ext_getElem?
  intro i
  by_cases hi : i < n
  · by_cases he : i = t
    · subst he
      rw [List.getElem?_set_self (by simpa [fcSt] using hi), fcSt_at hi, if_pos (by omega)]
    · rw [List.getElem?_set_ne (fun e => he e.symm), fcSt_at hi, fcSt_at hi]
      by_cases h2 : i < t
      · rw [if_pos h2, if_pos (by omega)]
      · rw [if_neg h2, if_neg (by omega)]
  · rw [List.getElem?_eq_none (by simp [fcSt]; omega), List.getElem?_eq_none (by simp [fcSt]; omega)]
theorem fcSt_next (h : n ≤ t) : fcSt xss n k t = fcSt xss n (k + 1) 0 := by
  unfold fcSt
  apply List.map_congr_left
  intro i hi
  have hi : i < n := by simpa using hi
  rw [if_pos (by omega), if_neg (by omega)]
theorem fcSt_all : fcSt xss n k 0 = (List.range n).map fun (f : Nat) => fcRow xss n k f := by
  unfold fcSt
  apply List.map_congr_left
  intro i _
  rw [if_neg (by omega)]
end
end Go.Proofs.Ytmfddenjemoedaa
