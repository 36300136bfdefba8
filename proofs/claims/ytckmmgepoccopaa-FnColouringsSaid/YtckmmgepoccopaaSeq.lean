/- Rows out of a slice literal; rows behind rows. Plain facts. -/
import Derived.Test.YtckmmgepoccopaaStm
namespace Go.Proofs.Ytckmmgepoccopaa
open Go.RowKit

section
variable {w wm w4 : World} {lo i j : Nat} {Ps : List Pc} {t e n c n2 c2 : Nat} {A A2 : Option Addr} {vals vals2 : List Value} {xss yss : List (List Int)} {xs : List Int}
/-- A slice with one element that is a slice of its own. -/
theorem Sep.ownRow {A1 : Option Addr} {c1 m : Nat} (h : Sep w lo Ps) (hi : Ps[i]? = some (.own e A 1 c [.slice A1 m c1])) (hj : Ps[j]? = some (.own t A1 m c1 (ints xs))) (hm : xs.length = m) (hij : i ≠ j) (hlo : lo ≤ w.heap.size) :
    Sep w lo ((Ps.set i (.rows t e A 1 c [.slice A1 m c1] [xs])).set j .emp) := by
  subst hm
  refine h.merge hi hj hij (Nat.le_refl _) hlo fun F G h1 h2 hF hG hd => ?_
  obtain ⟨g1, g2⟩ := h1
  obtain ⟨d1, d2⟩ := h2
  refine ⟨fun a => F a ∨ G a, ⟨g1, fun a ha => .inl (g2 a ha), rfl, fun k zs hk => ?_, fun a b u v hab hu hv => ?_⟩, fun a ha => by rcases ha with h | h; exact .inl h; exact .inr (.inl h), fun a _ _ _ => rfl⟩
  · match k, hk with
    | 0, hk =>
      injection hk with hk
      subst hk
      exact ⟨A1, c1, rfl, d1, fun a ha => .inr (d2 a ha)⟩
  · have h1 := (List.getElem?_eq_some_iff.1 hu).1
    have h2 := (List.getElem?_eq_some_iff.1 hv).1
    simp at h1 h2
    omega
/-- Rows are put behind rows. -/
theorem Sep.rowsCat {A4 : Option Addr} {c4 base : Nat} (h : Sep w lo Ps) (hi : Ps[i]? = some (.rows t e A n c vals xss)) (hj : Ps[j]? = some (.rows t e A2 n2 c2 vals2 yss)) (hij : i ≠ j) (het : e ≠ t) (hlo : lo ≤ w.heap.size)
    (hb : Below w.heap.size w wm) (own4 : w4.ownsRow base e 1 (.slice A4 (n + n2) c4) (n + n2) (vals ++ vals2)) (gr : wm.grownBy w4 (Value.slice A n c).ownBlock)
    (hat : (Value.slice A4 (n + n2) c4).ownBlock = (Value.slice A n c).ownBlock ∨ ∀ b, (Value.slice A4 (n + n2) c4).ownBlock = some b → w.heap.size ≤ b) :
    Sep w4 lo ((Ps.set i (.rows t e A4 (n + n2) c4 (vals ++ vals2) (xss ++ yss))).set j .emp) := by
  have hs := hb.size
  have hs4 := gr.size
  refine h.merge hi hj hij (by omega) hlo fun F G h1 h2 hF hG hd => ?_
  obtain ⟨g1, g2, g3, g4, g5⟩ := h1
  obtain ⟨d1, d2, d3, d4, d5⟩ := h2
  have q1 := own_below g1 hb (Nat.le_refl _)
  have keep : ∀ (A3 : Option Addr) (c3 : Nat) (zs : List Int), w.ownsRow 0 t 1 (.slice A3 zs.length c3) zs.length (ints zs) → w4.ownsRow 0 t 1 (.slice A3 zs.length c3) zs.length (ints zs) := fun A3 c3 zs ho => by
    have := own_below ho hb (Nat.le_refl _)
    exact this.kept gr (own_ne2 this q1 (fun h => het h.symm))
  have hvl : vals.length = n := by have := g1.1; omega
  have hvl2 : vals2.length = n2 := by have := d1.1; omega
  refine ⟨fun a => F a ∨ G a ∨ (w.heap.size ≤ a ∧ a < w4.heap.size), ⟨own_base own4 (Nat.zero_le _), fun a ha => ?_, by simp [g3, d3], fun k zs hk => ?_, ?_⟩, fun a ha => ha, fun a ha hF' hG' => ?_⟩
  · rcases hat with h | h
    · exact .inl (g2 a (by rw [← h]; exact ha))
    · exact .inr (.inr ⟨h a ha, (own4.lt a ha).2⟩)
  · by_cases ek : k < xss.length
    · rw [List.getElem?_append_left ek] at hk
      obtain ⟨A3, c3, b1, b2, b3⟩ := g4 k zs hk
      exact ⟨A3, c3, by rw [List.getElem?_append_left (by omega)]; exact b1, keep A3 c3 zs b2, fun a ha => .inl (b3 a ha)⟩
    · rw [List.getElem?_append_right (by omega)] at hk
      obtain ⟨A3, c3, b1, b2, b3⟩ := d4 _ zs hk
      exact ⟨A3, c3, by rw [List.getElem?_append_right (by omega), hvl, ← g3]; exact b1, keep A3 c3 zs b2, fun a ha => .inr (.inl (b3 a ha))⟩
  · have hold : ∀ (a : Nat) (u : Value), vals[a]? = some u → ∀ x, u.ownBlock = some x → F x := fun a u hu x hx => by
      have hal : a < xss.length := by have := (List.getElem?_eq_some_iff.1 hu).1; omega
      obtain ⟨A3, c3, b1, b2, b3⟩ := g4 a _ (List.getElem?_eq_getElem hal)
      rw [hu] at b1
      injection b1 with b1
      subst b1
      exact b3 x hx
    have hold2 : ∀ (a : Nat) (u : Value), vals2[a]? = some u → ∀ x, u.ownBlock = some x → G x := fun a u hu x hx => by
      have hal : a < yss.length := by have := (List.getElem?_eq_some_iff.1 hu).1; omega
      obtain ⟨A3, c3, b1, b2, b3⟩ := d4 a _ (List.getElem?_eq_getElem hal)
      rw [hu] at b1
      injection b1 with b1
      subst b1
      exact b3 x hx
    have hcase : ∀ (a : Nat) (u : Value), (vals ++ vals2)[a]? = some u → (a < n ∧ vals[a]? = some u) ∨ (n ≤ a ∧ vals2[a - n]? = some u) := fun a u hu => by
      by_cases ha : a < vals.length
      · rw [List.getElem?_append_left ha] at hu; exact .inl ⟨by omega, hu⟩
      · rw [List.getElem?_append_right (by omega), hvl] at hu; exact .inr ⟨by omega, hu⟩
    intro a b u v hab hu hv x hx hvx
    rcases hcase a u hu with ⟨l1, h1⟩ | ⟨l1, h1⟩
    · rcases hcase b v hv with ⟨l2, h2⟩ | ⟨l2, h2⟩
      · exact g5 a b u v hab h1 h2 x hx hvx
      · exact hd x (hold a u h1 x hx) (hold2 _ v h2 x hvx)
    · rcases hcase b v hv with ⟨l2, h2⟩ | ⟨l2, h2⟩
      · exact hd x (hold b v h2 x hvx) (hold2 _ u h1 x hx)
      · exact d5 (a - n) (b - n) u v (by omega) h1 h2 x hx hvx
  · rw [gr.block a (by omega) (fun e => hF' (g2 a e.symm)), hb.block a ha]
end
section
variable {w0 w w4 : World} {i j : Nat} {Ps : List Pc} {t e n c n2 c2 : Nat} {A A2 : Option Addr} {vals vals2 : List Value} {xss yss : List (List Int)} {xs : List Int}
theorem St.rowLit {A1 : Option Addr} {c1 m : Nat} (h : St w0 w Ps) (hj : Ps[j]? = some (.own t A1 m c1 (ints xs))) (hm : xs.length = m) (e : TypeId) : St w0 (w.alloc (.cells #[.slice A1 m c1] e)) ((Ps ++ [Pc.rows t e (some ⟨w.heap.size, 0, none⟩) 1 1 [.slice A1 m c1] [xs]]).set j Pc.emp) := by
  have hjl := (List.getElem?_eq_some_iff.1 hj).1
  have h1 := h.addLit1 (.slice A1 m c1) e
  have h2 := h1.sep.ownRow (i := Ps.length) (j := j) (last_at _ _) (by rw [List.getElem?_append_left hjl]; exact hj) hm (by omega) h1.lo
  refine ⟨?_, h1.below⟩
  rw [List.set_append_right _ _ (Nat.le_refl _), Nat.sub_self, List.set_cons_zero] at h2
  exact h2
theorem St.rowsCat {A4 : Option Addr} {c4 base : Nat} (h : St w0 w Ps) (hi : Ps[i]? = some (.rows t e A n c vals xss)) (hj : Ps[j]? = some (.rows t e A2 n2 c2 vals2 yss)) (hij : i ≠ j) (het : e ≠ t)
    (own4 : w4.ownsRow base e 1 (.slice A4 (n + n2) c4) (n + n2) (vals ++ vals2)) (gr : w.grownBy w4 (Value.slice A n c).ownBlock)
    (hat : (Value.slice A4 (n + n2) c4).ownBlock = (Value.slice A n c).ownBlock ∨ (Value.slice A4 (n + n2) c4).ownBlock = some w.heap.size) :
    St w0 w4 ((Ps.set i (.rows t e A4 (n + n2) c4 (vals ++ vals2) (xss ++ yss))).set j .emp) :=
  ⟨h.sep.rowsCat hi hj hij het h.lo (Below.refl _ _) own4 gr (hat_of0 hat), h.below.grown gr h.lo fun k hk => ((h.rows hi).lt k hk).1⟩
end
end Go.Proofs.Ytckmmgepoccopaa
