/- What holds at the loops of impl's distances: facts outside the walks. -/
import Derived.Test.YtjkddoiacifhpaaDst
namespace Go.Proofs.Ytjkddoiacifhpaa
open Go.RowKit

/-- The list that is answered lies behind the list of the points. -/
structure EyS (w wr : World) (v : Value) (T : TypeId) (g n : Nat) (A : Option Addr) (c : Nat) (D O : List Int) : Prop where
  bx : Bx w wr v T
  out : wr.ownsRow (w.heap.size + 1) 2 1 (.slice (some ⟨g, 0, none⟩) n n) n (ints D)
  rch : wr.ownsRow w.heap.size 2 1 (.slice A n c) n (ints O)
  hi : InB (.slice A n c) w.heap.size g
section
variable {w wr w2 : World} {v : Value} {T : TypeId} {g n c : Nat} {A : Option Addr} {D O : List Int}
theorem EyS.go (h : EyS w wr v T g n A c D O) (hb : Below wr.heap.size wr w2) : EyS w w2 v T g n A c D O :=
  ⟨h.bx.go hb, own_below h.out hb (Nat.le_refl _), own_below h.rch hb (Nat.le_refl _), h.hi⟩
theorem EyS.glo (h : EyS w wr v T g n A c D O) : w.heap.size + 1 ≤ g := (h.out.lt g rfl).1
theorem EyS.set (h : EyS w wr v T g n A c D O) (q : Nat) (x : Int) : EyS w (wr.setCell ⟨g, q, none⟩ (.int .i64 x)) v T g n A c (D.set q x) O := by
  have hst := h.out.stored q (.int .i64 x)
  refine ⟨⟨h.bx.bel.setCell (p := ⟨g, q, none⟩) h.glo _⟩, by have h1 := hst.1; rwa [ints_set] at h1, h.rch.kept hst.2 ?_, h.hi⟩
  cases hk : (Value.slice A n c).ownBlock with
  | none => exact .inl rfl
  | some k =>
    right
    intro he
    have h1 := h.hi k hk
    simp at he
    omega
theorem EyS.drewN (h : EyS w wr v T g n A c D O) (k : Nat) : EyS w (wr.drewN k) v T g n A c D O := h.go (below_drewN (Below.refl _ _) k)
theorem EyS.len (h : EyS w wr v T g n A c D O) : O.length = n ∧ D.length = n := by
  have h1 := h.rch.1
  have h2 := h.out.1
  simp at h1 h2
  omega
theorem eys_start {v : Value} {w1 : World} (own : w1.ownsRow w.heap.size 2 1 (.slice A n c) n (ints O)) (bx : Bx w w1 v T) (hm : n ≤ 400) :
    EyS w (w1.alloc (.cells (madeCells #[.int .i64 0] n) 2)) v T w1.heap.size n A c (List.replicate n 0) O := by
  have h0 := make_own w1 (.int .i64 0) n 2 (by unfold maxLen; omega)
  exact ⟨bx.al _, by simpa using own_base h0 bx.size, own_below own (below1 _ _) (Nat.le_refl _), own_in own⟩
end

def setAll (z : Int) (L D : List Int) : List Int := L.foldl (fun D x => D.set x.toNat z) D
theorem setAll_len (z : Int) : ∀ (L D : List Int), (setAll z L D).length = D.length
  | [], D => rfl
  | x :: L, D => by
    show (setAll z L (D.set x.toNat z)).length = D.length
    rw [setAll_len z L]; simp
theorem setAll_at (z : Int) : ∀ (L D : List Int) (y : Nat), (∀ x ∈ L, 0 ≤ x) → y < D.length → (setAll z L D)[y]? = if (y : Int) ∈ L then some z else D[y]?
  | [], D, y, _, _ => by simp [setAll]
  | x :: L, D, y, h, hy => by
    have e : setAll z (x :: L) D = setAll z L (D.set x.toNat z) := rfl
    rw [e, setAll_at z L _ y (fun a ha => h a (List.mem_cons.2 (.inr ha))) (by simpa using hy)]
    have hx := h x (by simp)
    by_cases h1 : (y : Int) ∈ L
    · rw [if_pos h1, if_pos (List.mem_cons.2 (.inr h1))]
    · rw [if_neg h1]
      by_cases h2 : x.toNat = y
      · rw [if_pos (by rw [List.mem_cons]; left; omega), h2, List.getElem?_set_self hy]
      · rw [if_neg (by rw [List.mem_cons]; rintro (h3 | h3); exact h2 (by omega); exact h1 h3), List.getElem?_set_ne h2]
theorem setAll_succ {z : Int} {L D : List Int} {k q : Nat} (h : L[k]? = some (q : Int)) : (setAll z (L.take k) D).set q z = setAll z (L.take (k + 1)) D := by
  rw [List.take_add_one, h]
  unfold setAll
  rw [List.foldl_append]
  simp
/-- All but the first point have got the number 400. -/
theorem far_all {n p : Nat} {O : List Int} (hps : Passed n O) (hl : O.length = n) (h0 : O[0]? = some (p : Int)) : setAll 400 (O.drop 1) (List.replicate n 0) = (List.replicate n 400).set p 0 := by
  have hO : O = (p : Int) :: O.drop 1 := by
    cases O with
    | nil => simp at h0
    | cons a r => simp at h0; subst h0; rfl
  apply List.ext_getElem?
  intro y
  by_cases hy : y < n
  · rw [setAll_at _ _ _ _ (fun x hx => (hps.1 x (List.mem_of_mem_drop hx)).1) (by simpa using hy)]
    have hm := mem_all hl hps hy
    have hnd := hps.2
    rw [hO] at hm hnd
    by_cases e : p = y
    · subst e
      rw [if_neg (List.nodup_cons.1 hnd).1, List.getElem?_set_self (by simpa using hy)]
      simp [hy]
    · rw [List.getElem?_set_ne e, if_pos (by rcases List.mem_cons.1 hm with h | h; omega; exact h)]
      simp [hy]
  · rw [List.getElem?_eq_none (by rw [setAll_len]; simp; omega), List.getElem?_eq_none (by simp; omega)]
end Go.Proofs.Ytjkddoiacifhpaa
