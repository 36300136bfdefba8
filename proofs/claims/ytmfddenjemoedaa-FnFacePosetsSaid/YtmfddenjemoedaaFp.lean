/- impl.Maniplex.facePoset: what holds while it is made; facts outside the walk. -/
import Derived.Test.YtmfddenjemoedaaSr
namespace Go.Proofs.Ytmfddenjemoedaa
open Go.RowKit

structure FpS (w w1 wr : World) (v : Value) (hi n cA m c5 S : Nat) (A A5 : Option Addr) (faces : List (List Int)) (rs : List Int) (rows : List (List Int)) : Prop where
  k : Bx w wr v 45
  z : Blk wr (w.heap.size + 1) #[.int .i64 0, .slice none 0 0, .slice none 0 0] 62
  fa : OwnSS wr (w.heap.size + 2) w1.heap.size 24 A n cA faces
  ra : wr.ownsRow (w.heap.size + 2) 2 1 (.slice A5 m c5) m (ints rs)
  rin : InB (.slice A5 m c5) (w.heap.size + 2) w1.heap.size
  s : OwnSS wr w1.heap.size hi 24 (some ⟨w1.heap.size, 0, none⟩) S S rows
  h1 : w.heap.size + 2 ≤ w1.heap.size
  hi : hi ≤ wr.heap.size
section
variable {w w1 wr w5 : World} {v : Value} {hi hi' n cA m c5 S : Nat} {A A5 : Option Addr} {faces : List (List Int)} {rs : List Int} {rows rows' : List (List Int)}
theorem FpS.go (h : FpS w w1 wr v hi n cA m c5 S A A5 faces rs rows) (hb : Below wr.heap.size wr w5) : FpS w w1 w5 v hi n cA m c5 S A A5 faces rs rows :=
  ⟨h.k.go hb, h.z.go hb, ownSS_below h.fa hb (Nat.le_refl _), own_below h.ra hb (Nat.le_refl _), h.rin, ownSS_below h.s hb (Nat.le_refl _), h.h1, Nat.le_trans h.hi hb.size⟩
theorem FpS.turn (h : FpS w w1 wr v hi n cA m c5 S A A5 faces rs rows) (tu : Turns w1.heap.size hi wr w5) (hs : OwnSS w5 w1.heap.size hi' 24 (some ⟨w1.heap.size, 0, none⟩) S S rows') (hh : hi' ≤ w5.heap.size) : FpS w w1 w5 v hi' n cA m c5 S A A5 faces rs rows' := by
  have h1 := h.h1
  exact ⟨h.k.tu tu (by omega), h.z.turns tu (.inl (by omega)), ownSS_turns h.fa tu (.inl (Nat.le_refl _)), tu.own h.ra h.rin (.inl (Nat.le_refl _)), h.rin, hs, h1, hh⟩
theorem FpS.lo (h : FpS w w1 wr v hi n cA m c5 S A A5 faces rs rows) : w1.heap.size < hi := (ownSS_lo h.s).2
end
/-- What the rows hold: as far as the flags before f, and t ranks of the flag f, are done. -/
def RowsTo (xss : List (List Int)) (n N f t : Nat) (rows : List (List Int)) : Prop :=
  ∀ (e : Nat) (r : List Int), rows[e]? = some r → (∀ x, x ∈ r ↔ BelTo xss n N f t e x) ∧ r.length ≤ f * 25 + t * 5
section
variable {xss : List (List Int)} {n N f t : Nat} {rows : List (List Int)}
theorem rowsTo_start (S : Nat) : RowsTo xss n N 0 0 (List.replicate S []) := fun e r h => by
  have : r = [] := by
    have := List.mem_of_getElem? h
    simp at this
    exact this.2
  subst this
  exact ⟨fun x => ⟨fun h => by simp at h, fun h => absurd h belTo_zero⟩, by simp⟩
theorem rowsTo_next (h : RowsTo xss n N f t rows) (ht : N ≤ t) (ht2 : t ≤ 5) : RowsTo xss n N (f + 1) 0 rows := fun e r he => by
  obtain ⟨h1, h2⟩ := h e r he
  exact ⟨fun x => (h1 x).trans (belTo_next ht), by omega⟩
theorem rowsTo_step (h : RowsTo xss n N f t rows) (hf : f < n) (ht : t < N) (hN : N ≤ 5) {y : Nat} {r : List Int} (hy : (fcRow xss n N f)[t]? = some (y : Int)) (hr : rows[y]? = some r) : RowsTo xss n N f (t + 1) (rows.set y (r ++ (fcRow xss n N f).take t)) := fun e r' he => by
  by_cases hey : e = y
  · subst hey
    rw [List.getElem?_set_self (List.getElem?_eq_some_iff.1 hr).1] at he
    injection he with he
    subst he
    obtain ⟨h1, h2⟩ := h e r hr
    refine ⟨fun x => ?_, by rw [List.length_append, List.length_take]; omega⟩
    rw [belTo_step hf ht hy, List.mem_append, h1 x]
    simp
  · rw [List.getElem?_set_ne (fun h => hey h.symm)] at he
    obtain ⟨h1, h2⟩ := h e r' he
    refine ⟨fun x => ?_, by omega⟩
    rw [belTo_step hf ht hy, h1 x]
    constructor
    · exact .inl
    · rintro (h | ⟨h, _⟩)
      · exact h
      · exact absurd (show e = y by omega) hey
theorem bl_row (hsys : okSys n xss = true) {e : Nat} {r : List Int} (h : ∀ x, x ∈ r ↔ BelE xss n N e x) : cpL (sortL r) = blwL xss n N e := by
  refine strict_eq (cpL_strict _ (sortL_sorted r)) ?_ fun x => ?_
  · unfold blwL
    refine List.pairwise_map.2 (List.Pairwise.imp ?_ (List.Pairwise.filter _ (List.pairwise_lt_range (n := fstE xss n N))))
    intro a b hab
    omega
  · rw [cpL_mem, (sortL_perm r).mem_iff, h x]
    unfold blwL
    rw [List.mem_map]
    constructor
    · intro hb
      obtain ⟨f, i, j, h1, h2, h3, h4, h5⟩ := hb
      obtain ⟨d, rfl, _, _, hd⟩ := fc_bd hsys h1 h5
      exact ⟨d, List.mem_filter.2 ⟨by simpa using hd, pB_true ⟨f, i, j, h1, h2, h3, h4, h5⟩⟩, rfl⟩
    · rintro ⟨d, hd, rfl⟩
      exact pB_iff.1 (List.mem_filter.1 hd).2
end
end Go.Proofs.Ytmfddenjemoedaa
