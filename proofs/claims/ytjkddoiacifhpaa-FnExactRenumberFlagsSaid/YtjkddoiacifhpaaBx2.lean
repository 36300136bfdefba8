/- A struct that came in and one that is answered, in the first two blocks behind the world. -/
import Derived.Test.YtjkddoiacifhpaaRn2
namespace Go.Proofs.Ytjkddoiacifhpaa
open Go.RowKit

structure Bx2 (w wr : World) (v : Value) : Prop where
  bel : Below (w.heap.size + 2) ((w.alloc (.cells #[v] 51)).alloc (.cells #[.slice none 0 0] 51)) wr
section
variable {w wr w2 : World} {v : Value}
theorem Bx2.start (w : World) (v : Value) : Bx2 w ((w.alloc (.cells #[v] 51)).alloc (.cells #[.slice none 0 0] 51)) v := ⟨Below.refl _ _⟩
theorem Bx2.below (h : Bx2 w wr v) : Below w.heap.size w wr := (below2 w _ _).trans (h.bel.mono (by omega))
theorem Bx2.size (h : Bx2 w wr v) : w.heap.size + 2 ≤ wr.heap.size := by have := h.bel.size; simp at this; omega
theorem Bx2.go (h : Bx2 w wr v) (hb : Below wr.heap.size wr w2) : Bx2 w w2 v := ⟨h.bel.trans (hb.mono h.size)⟩
theorem Bx2.cell (h : Bx2 w wr v) : wr.cell? ⟨w.heap.size, 0, none⟩ = some v :=
  (h.bel.cell (p := ⟨w.heap.size, 0, none⟩) (by simp)).trans (cell_al (Bx.start w v 51).cell _)
theorem Bx2.cell1 (h : Bx2 w wr v) : wr.cell? ⟨w.heap.size + 1, 0, none⟩ = some (.slice none 0 0) :=
  (h.bel.cell (p := ⟨w.heap.size + 1, 0, none⟩) (by simp)).trans (by simp)
theorem Bx2.free1 (h : Bx2 w wr v) : wr.frozen? ⟨w.heap.size + 1, 0, none⟩ = false :=
  (h.bel.frozen (p := ⟨w.heap.size + 1, 0, none⟩) (by simp)).trans (by simp)
theorem Bx2.set (h : Bx2 w wr v) (x : Value) : Below w.heap.size w (wr.setCell ⟨w.heap.size + 1, 0, none⟩ x) := h.below.setCell (p := ⟨w.heap.size + 1, 0, none⟩) (by simp) _
theorem retMC_no (h : Bx2 w wr v) (C : Int) (x : Value) : RetMC w [] C (.returned (.tuple #[.agg #[.slice none 0 0], .int .i64 C])) (wr.setCell ⟨w.heap.size + 1, 0, none⟩ x) :=
  ⟨none, 0, rfl, ownSS_nil _ _ _ _, h.set x⟩
theorem retMC_yes {L : List (List Int)} {A : Option Addr} {c base hi : Nat} (h : Bx2 w wr v) (own : OwnSS wr base hi 24 A L.length c L) (hb : w.heap.size + 2 ≤ base) (hh : hi ≤ wr.heap.size) (x : Value) (C : Int) :
    RetMC w L C (.returned (.tuple #[.agg #[.slice A L.length c], .int .i64 C])) (wr.setCell ⟨w.heap.size + 1, 0, none⟩ x) :=
  ⟨A, c, rfl, ownSS_wide (own.turns2 0 (w.heap.size + 1) _ (.inl (by omega))) (by omega) (by simpa using hh), h.set x⟩
theorem retM_yes {L : List (List Int)} {A : Option Addr} {c base hi : Nat} (h : Bx2 w wr v) (own : OwnSS wr base hi 24 A L.length c L) (hb : w.heap.size + 2 ≤ base) (hh : hi ≤ wr.heap.size) (x : Value) :
    RetM w L (.returned (.agg #[.slice A L.length c])) (wr.setCell ⟨w.heap.size + 1, 0, none⟩ x) :=
  ⟨A, c, rfl, ownSS_wide (own.turns2 0 (w.heap.size + 1) _ (.inl (by omega))) (by omega) (by simpa using hh), h.set x⟩
end
end Go.Proofs.Ytjkddoiacifhpaa
