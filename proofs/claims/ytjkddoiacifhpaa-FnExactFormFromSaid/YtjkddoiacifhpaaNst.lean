/- What holds while the moves of a renumbered maniplex are made: facts outside the walks. -/
import Derived.Test.YtjkddoiacifhpaaWd7
namespace Go.Proofs.Ytjkddoiacifhpaa
open Go.RowKit

/-- What a call gives back that makes a maniplex. -/
def RetM (w : World) (L : List (List Int)) (e : Ending) (w' : World) : Prop :=
  ∃ A c, e = .returned (.agg #[.slice A L.length c]) ∧ OwnSS w' w.heap.size w'.heap.size 24 A L.length c L ∧ Below w.heap.size w w'
def RetMC (w : World) (L : List (List Int)) (C : Int) (e : Ending) (w' : World) : Prop :=
  ∃ A c, e = .returned (.tuple #[.agg #[.slice A L.length c], .int .i64 C]) ∧ OwnSS w' w.heap.size w'.heap.size 24 A L.length c L ∧ Below w.heap.size w w'

/-- The struct that came in, the one that is answered and the one that is made lie in the first three blocks behind w. -/
structure NSt (w wr : World) (v : Value) (hi : Nat) (A : Option Addr) (k c : Nat) (L : List (List Int)) : Prop where
  bel : Below (w.heap.size + 2) ((w.alloc (.cells #[v] 51)).alloc (.cells #[.slice none 0 0] 51)) wr
  out : wr.ownsRow (w.heap.size + 2) 51 1 (.slice (some ⟨w.heap.size + 1 + 1, 0, none⟩) 1 1) 1 [.slice A k c]
  rows : OwnSS wr (w.heap.size + 3) hi 24 A k c L
  hi3 : w.heap.size + 3 ≤ hi
  his : hi ≤ wr.heap.size
section
variable {w wr w2 : World} {v : Value} {hi k c : Nat} {A : Option Addr} {L : List (List Int)}
theorem NSt.go (h : NSt w wr v hi A k c L) (hb : Below wr.heap.size wr w2) : NSt w w2 v hi A k c L :=
  ⟨h.bel.trans (hb.mono (by have := h.hi3; have := h.his; omega)), own_below h.out hb (Nat.le_refl _), ownSS_below h.rows hb (Nat.le_refl _), h.hi3, Nat.le_trans h.his hb.size⟩
theorem NSt.below (h : NSt w wr v hi A k c L) : Below w.heap.size w wr := (below2 w _ _).trans (h.bel.mono (by omega))
theorem NSt.size (h : NSt w wr v hi A k c L) : w.heap.size + 3 ≤ wr.heap.size := Nat.le_trans h.hi3 h.his
theorem NSt.cell0 (h : NSt w wr v hi A k c L) : wr.cell? ⟨w.heap.size, 0, none⟩ = some v :=
  (h.bel.cell (p := ⟨w.heap.size, 0, none⟩) (by simp)).trans (cell_al (Bx.start w v 51).cell _)
theorem NSt.cell1 (h : NSt w wr v hi A k c L) : wr.cell? ⟨w.heap.size + 1, 0, none⟩ = some (.slice none 0 0) :=
  (h.bel.cell (p := ⟨w.heap.size + 1, 0, none⟩) (by simp)).trans (by simp)
theorem NSt.free1 (h : NSt w wr v hi A k c L) : wr.frozen? ⟨w.heap.size + 1, 0, none⟩ = false :=
  (h.bel.frozen (p := ⟨w.heap.size + 1, 0, none⟩) (by simp)).trans (by simp)
theorem NSt.cell2 (h : NSt w wr v hi A k c L) : wr.cell? ⟨w.heap.size + 1 + 1, 0, none⟩ = some (.slice A k c) := own_cell h.out rfl
theorem NSt.free2 (h : NSt w wr v hi A k c L) : wr.frozen? ⟨w.heap.size + 1 + 1, 0, none⟩ = false := h.out.frozenAt 0
theorem nst_start (w : World) (v : Value) : NSt w (((w.alloc (.cells #[v] 51)).alloc (.cells #[.slice none 0 0] 51)).alloc (.cells #[.slice none 0 0] 51)) v (w.heap.size + 3) none 0 0 [] := by
  have h2 := World.ownsRow_lit (base := w.heap.size + 2) (e := 51) (size := 1) ((w.alloc (.cells #[v] 51)).alloc (.cells #[.slice none 0 0] 51)) #[.slice none 0 0] 1 (by simp) (by decide) (by simp)
  exact ⟨(Below.refl _ _).alloc (by simp) _, by simpa using h2, ownSS_nil _ _ _ _, Nat.le_refl _, by simp⟩
/-- One row is filled. -/
structure NIn (w wr : World) (v : Value) (g : Nat) (A : Option Addr) (k c n : Nat) (L : List (List Int)) (D : List Int) : Prop where
  st : NSt w wr v g A k c L
  row : wr.ownsRow g 2 1 (.slice (some ⟨g, 0, none⟩) n n) n (ints D)
theorem nin_start {n : Nat} (h : NSt w wr v hi A k c L) (hn : n ≤ 400) : NIn w (wr.alloc (.cells (madeCells #[.int .i64 0] n) 2)) v wr.heap.size A k c n L (List.replicate n 0) := by
  have h1 := h.go (below1 wr (.cells (madeCells #[.int .i64 0] n) 2))
  exact ⟨⟨h1.bel, h1.out, ownSS_wide h1.rows (Nat.le_refl _) h.his, h.size, by simp⟩, by simpa using make_own wr (.int .i64 0) n 2 (by unfold maxLen; omega)⟩
theorem NIn.go {n g : Nat} {D : List Int} (h : NIn w wr v g A k c n L D) (hb : Below wr.heap.size wr w2) : NIn w w2 v g A k c n L D := ⟨h.st.go hb, own_below h.row hb (Nat.le_refl _)⟩
theorem NIn.set {n g : Nat} {D : List Int} (h : NIn w wr v g A k c n L D) (q : Nat) (x : Int) : NIn w (wr.setCell ⟨g, q, none⟩ (.int .i64 x)) v g A k c n L (D.set q x) := by
  have hst := h.row.stored q (.int .i64 x)
  refine ⟨⟨h.st.bel.setCell (p := ⟨g, q, none⟩) (show w.heap.size + 2 ≤ g by have := h.st.hi3; omega) _, h.st.out.kept hst.2 (own_ne h.st.out h.row (by decide)), h.st.rows.turns2 q g _ (.inr (Nat.le_refl _)), h.st.hi3, by have := h.st.his; simpa using this⟩, by have h1 := hst.1; rwa [ints_set] at h1⟩
/-- The row is put behind the others, and the struct that is made has the new slice. -/
theorem nin_push {n g c2 : Nat} {A2 : Option Addr} {D : List Int} {o : Obj} {w4 : World} (h : NIn w wr v g A k c n L D) (hD : D.length = n)
    (hnew : ∀ vals, wr.ownsRow (w.heap.size + 3) 24 1 (.slice A k c) k vals → w4.ownsRow (w.heap.size + 3) 24 1 (.slice A2 (k + 1) c2) (k + 1) (vals ++ [.slice (some ⟨g, 0, none⟩) n n])) (hg : (wr.alloc o).grownBy w4 (Value.slice A k c).ownBlock) :
    (w4.cell? ⟨w.heap.size + 1 + 1, 0, none⟩ = some (.slice A k c) ∧ w4.frozen? ⟨w.heap.size + 1 + 1, 0, none⟩ = false) ∧
    NSt w (w4.setCell ⟨w.heap.size + 1 + 1, 0, none⟩ (.slice A2 (k + 1) c2)) v w4.heap.size A2 (k + 1) c2 (L ++ [D]) := by
  subst hD
  have hr := ownSS_push (xs := D) h.st.rows (by decide) h.row (Nat.le_refl _) h.st.hi3 hnew hg
  obtain ⟨vals, hv, hvin, _⟩ := h.st.rows
  have ho := (h.st.out.alloc o).kept hg (own_ne (h.st.out.alloc o) (hv.alloc o) (by decide))
  have hst := ho.stored 0 (.slice A2 (k + 1) c2)
  have hgz := hg.size
  have hz := h.st.size
  have hb : Below (w.heap.size + 2) ((w.alloc (.cells #[v] 51)).alloc (.cells #[.slice none 0 0] 51)) w4 :=
    (h.st.bel.alloc (by omega) o).grown hg (by simp; omega) fun q hq => by have := (hvin q hq).1; omega
  refine ⟨⟨own_cell ho rfl, ho.frozenAt 0⟩, hb.setCell (p := ⟨w.heap.size + 1 + 1, 0, none⟩) (Nat.le_refl _) _, by simpa using hst.1, hr.turns2 0 (w.heap.size + 2) _ (.inl (by omega)), ?_, by simp⟩
  simp at hgz
  omega
/-- The struct is answered. -/
theorem nst_done (h : NSt w wr v hi A k c L) (hk : L.length = k) : RetM w L (.returned (.agg #[.slice A k c])) (wr.setCell ⟨w.heap.size + 1, 0, none⟩ (.slice A k c)) := by
  subst hk
  exact ⟨A, c, rfl, ownSS_wide (h.rows.turns2 0 (w.heap.size + 1) _ (.inl (by omega))) (by omega) (by have := h.his; simpa using this), ((below2 w _ _).trans (h.bel.mono (by omega))).setCell (p := ⟨w.heap.size + 1, 0, none⟩) (by simp) _⟩
end
end Go.Proofs.Ytjkddoiacifhpaa
