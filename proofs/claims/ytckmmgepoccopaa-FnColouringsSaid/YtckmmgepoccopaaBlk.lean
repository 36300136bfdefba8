/- A block known whole: its cells, and what it is behind stores. Plain facts. -/
import Derived.Test.YtckmmgepoccopaaL1
import Derived.OneCell
namespace Go.Proofs.Ytckmmgepoccopaa
open Go.RowKit

/-- The block g holds the cells cs, and may be written. -/
def Blk (w : World) (g : Nat) (cs : Array Value) (t : TypeId) : Prop := w.heap[g]? = some (.cells cs t (0, 0))
section
variable {w w' : World} {g i : Nat} {cs : Array Value} {t : TypeId} {v : Value}
theorem Blk.cell (h : Blk w g cs t) (hi : cs[i]? = some v) : w.cell? ⟨g, i, none⟩ = some v := by
  have h2 : w.heap[g]? = some (.cells cs t (0, 0)) := h
  simp [World.cell?, h2, hi]
theorem Blk.free (h : Blk w g cs t) (i : Nat) : w.frozen? ⟨g, i, none⟩ = false := by
  have h2 : w.heap[g]? = some (.cells cs t (0, 0)) := h
  simp [World.frozen?, h2]
theorem Blk.lt (h : Blk w g cs t) : g < w.heap.size := lt_of_block h
theorem Blk.be {B : Nat} (h : Blk w g cs t) (hb : Below B w w') (hg : g < B) : Blk w' g cs t := (hb.block g hg).trans h
theorem Blk.go (h : Blk w g cs t) (hb : Below w.heap.size w w') : Blk w' g cs t := h.be hb h.lt
theorem Blk.new (w : World) (cs : Array Value) (t : TypeId) : Blk (w.alloc (.cells cs t)) w.heap.size cs t := heap_alloc_new w _
theorem Blk.set (h : Blk w g cs t) (i : Nat) (u : Value) : Blk (w.setCell ⟨g, i, none⟩ u) g (cs.setIfInBounds i u) t := by
  have hlt := h.lt
  have h2 : w.heap[g]? = some (.cells cs t (0, 0)) := h
  have h' : w.heap[g] = .cells cs t (0, 0) := by simpa [Array.getElem?_eq_getElem hlt] using h2
  show (w.heap.modify g _)[g]? = _
  rw [Array.getElem?_eq_getElem (by simpa using hlt), Array.getElem_modify_self, h']
  rfl
theorem Blk.set_ne (h : Blk w g cs t) {k : Nat} (hk : k ≠ g) (i : Nat) (u : Value) : Blk (w.setCell ⟨k, i, none⟩ u) g cs t := by
  have h2 : w.heap[g]? = some (.cells cs t (0, 0)) := h
  show (w.heap.modify k _)[g]? = _
  rw [Array.getElem?_modify, if_neg hk, h2]
theorem Blk.turns {lo hi : Nat} (h : Blk w g cs t) (tu : Turns lo hi w w') (hg : g < lo ∨ hi ≤ g) : Blk w' g cs t := (tu.block g h.lt hg).trans h
end
theorem turns_set (w : World) (g b : Nat) (v : Value) : Turns g (g + 1) w (w.setCell ⟨g, b, none⟩ v) :=
  ⟨rfl, rfl, rfl, by simp, fun k _ hr => by
    have hne : g ≠ k := by omega
    simp [World.setCell, Array.getElem?_modify, hne]⟩
theorem own_turns2 {w : World} {base e n c lo hi : Nat} {A : Option Addr} {vs : List Value} (h : w.ownsRow base e 1 (.slice A n c) n vs) (hp : InB (.slice A n c) lo hi) (g b : Nat) (v : Value) (hg : g < lo ∨ hi ≤ g) : (w.setCell ⟨g, b, none⟩ v).ownsRow base e 1 (.slice A n c) n vs :=
  (turns_set w g b v).own h hp (by omega)
end Go.Proofs.Ytckmmgepoccopaa
