/- impl.IsPoset and what it calls. -/
import Derived.Test.YtmgoaabeopnopaaL14
import Derived.Test.YtmgoaabeopnopaaL6
namespace Go.Proofs.Ytmgoaabeopnopaa
open Go.RowKit

/-- The struct that came in lies in the first block behind w; nothing before it has turned. -/
structure Bp (w wr : World) (cs : Array Value) (T : TypeId) : Prop where
  bel : Below (w.heap.size + 1) (w.alloc (.cells cs T)) wr
section
variable {w wr w2 : World} {cs : Array Value} {T : TypeId}
theorem Bp.below (h : Bp w wr cs T) : Below w.heap.size w wr := (below1 w _).trans (h.bel.mono (by omega))
theorem Bp.size (h : Bp w wr cs T) : w.heap.size < wr.heap.size := by have := h.bel.size; simp at this; omega
theorem Bp.start (w : World) (cs : Array Value) (T : TypeId) : Bp w (w.alloc (.cells cs T)) cs T := ⟨Below.refl _ _⟩
theorem Bp.go (h : Bp w wr cs T) (hb : Below wr.heap.size wr w2) : Bp w w2 cs T := ⟨h.bel.trans (hb.mono (by have := h.size; omega))⟩
theorem Bp.al (h : Bp w wr cs T) (o : Obj) : Bp w (wr.alloc o) cs T := h.go (below1 _ _)
theorem Bp.drewN (h : Bp w wr cs T) (k : Nat) : Bp w (wr.drewN k) cs T := h.go (below_drewN (Below.refl _ _) k)
theorem Bp.drew (h : Bp w wr cs T) : Bp w wr.drew cs T := h.drewN 1
theorem Bp.tu {lo hi : Nat} (h : Bp w wr cs T) (tu : Turns lo hi wr w2) (hlo : w.heap.size + 1 ≤ lo) : Bp w w2 cs T :=
  ⟨tu.below h.bel (by have := h.size; omega) hlo⟩
end
section
variable {w wr : World} {u0 u1 u2 : Value} {T : TypeId}
theorem Bp.cell0 (h : Bp w wr #[u0, u1, u2] T) : wr.cell? ⟨w.heap.size, 0, none⟩ = some u0 :=
  (h.bel.cell (p := ⟨w.heap.size, 0, none⟩) (by simp)).trans (by simp)
theorem Bp.cell1 (h : Bp w wr #[u0, u1, u2] T) : wr.cell? ⟨w.heap.size, 1, none⟩ = some u1 :=
  (h.bel.cell (p := ⟨w.heap.size, 1, none⟩) (by simp)).trans (by simp)
theorem Bp.cell2 (h : Bp w wr #[u0, u1, u2] T) : wr.cell? ⟨w.heap.size, 2, none⟩ = some u2 :=
  (h.bel.cell (p := ⟨w.heap.size, 2, none⟩) (by simp)).trans (by simp)
end

end Go.Proofs.Ytmgoaabeopnopaa
