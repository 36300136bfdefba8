/- impl.Poset.opposite. -/
import Derived.Test.YtmfddenjemoedaaPc
import Derived.Test.YtmfddenjemoedaaPo
import Derived.Test.YtmfddenjemoedaaL12
import Derived.Test.YtmfddenjemoedaaPl
namespace Go.Proofs.Ytmfddenjemoedaa
open Go.RowKit

/-- What holds while the opposite poset is made: the struct that came in, the one that is answered, the ranks, the lists. -/
structure OpI (w w2 w3 wr : World) (cs : Array Value) (hi N : Nat) (rs : List Int) (rows : List (List Int)) : Prop where
  k : Bp w wr cs 62
  z : Blk wr (w.heap.size + 1) #[.int .i64 0, .slice none 0 0, .slice none 0 0] 62
  r : wr.ownsRow w2.heap.size 2 1 (.slice (some ⟨w2.heap.size, 0, none⟩) N N) N (ints rs)
  s : OwnSS wr w3.heap.size hi 24 (some ⟨w3.heap.size, 0, none⟩) N N rows
  h1 : w.heap.size + 2 ≤ w2.heap.size
  h2 : w2.heap.size + 1 ≤ w3.heap.size
  hi : hi ≤ wr.heap.size
section
variable {w w2 w3 wr w4 : World} {cs : Array Value} {hi N : Nat} {rs : List Int} {rows : List (List Int)}
theorem OpI.h3 (h : OpI w w2 w3 wr cs hi N rs rows) : w3.heap.size < hi := (ownSS_lo h.s).2
theorem pin_of (w2 : World) (N : Nat) : InB (.slice (some ⟨w2.heap.size, 0, none⟩) N N) w2.heap.size (w2.heap.size + 1) := fun k hk => by
  simp [Value.ownBlock] at hk
  omega
theorem OpI.go (h : OpI w w2 w3 wr cs hi N rs rows) (hb : Below wr.heap.size wr w4) : OpI w w2 w3 w4 cs hi N rs rows :=
  ⟨h.k.go hb, h.z.go hb, own_below h.r hb (Nat.le_refl _), ownSS_below h.s hb (Nat.le_refl _), h.h1, h.h2, Nat.le_trans h.hi hb.size⟩
theorem OpI.rank (h : OpI w w2 w3 wr cs hi N rs rows) (g : Nat) (x : Int) : OpI w w2 w3 (wr.setCell ⟨w2.heap.size, g, none⟩ (.int .i64 x)) cs hi N (rs.set g x) rows := by
  have hst := h.r.stored g (.int .i64 x)
  have h1 := h.h1
  have h2 := h.h2
  refine ⟨h.k.tu (turns_set wr w2.heap.size g _) (by omega), h.z.set_ne (by omega) g _, ?_, h.s.turns2 g w2.heap.size _ (.inl (by omega)), h.h1, h.h2, by have := h.hi; simpa using this⟩
  have h3 := hst.1
  rwa [ints_set] at h3
theorem OpI.push {k c1 c4 : Nat} {A1 A4 : Option Addr} {xs : List Int} {x : Int} {o : Obj} (h : OpI w w2 w3 wr cs hi N rs rows) (hx : rows[k]? = some xs)
    (hrow : ∀ vals : List Value, wr.ownsRow w3.heap.size 24 1 (.slice (some ⟨w3.heap.size, 0, none⟩) N N) N vals → vals[k]? = some (.slice A1 xs.length c1))
    (own4 : w4.ownsRow w3.heap.size 2 1 (.slice A4 (xs.length + 1) c4) (xs.length + 1) (ints xs ++ [.int .i64 x])) (gr : (wr.alloc o).grownBy w4 (Value.slice A1 xs.length c1).ownBlock)
    (hat : (Value.slice A4 (xs.length + 1) c4).ownBlock = (Value.slice A1 xs.length c1).ownBlock ∨ (Value.slice A4 (xs.length + 1) c4).ownBlock = some (wr.heap.size + 1)) :
    (w4.frozen? ⟨w3.heap.size, k, none⟩ = false ∧ ∃ u, w4.cell? ⟨w3.heap.size, k, none⟩ = some u) ∧ OpI w w2 w3 (w4.setCell ⟨w3.heap.size, k, none⟩ (.slice A4 (xs.length + 1) c4)) cs w4.heap.size N rs (rows.set k (xs ++ [x])) := by
  obtain ⟨a1, a2, a3, a4⟩ := ownSS_pushrow (o := o) h.s (by decide) hx h.hi hrow own4 gr hat
  have h1 := h.h1
  have h2 := h.h2
  exact ⟨⟨a2, a3⟩, h.k.tu a4 (by omega), h.z.turns a4 (.inl (by omega)), a4.own h.r (pin_of w2 N) (.inl (by omega)), a1, h1, h2, by simp⟩
end

/-- The first g elements of a list, and zeros behind. -/
def rsAt (X : List Int) (n g : Nat) : List Int := X.take g ++ List.replicate (n - g) 0
theorem rsAt_zero (X : List Int) (n : Nat) : rsAt X n 0 = List.replicate n 0 := by simp [rsAt]
theorem rsAt_all {X : List Int} {n : Nat} (h : X.length = n) : rsAt X n n = X := by simp [rsAt, List.take_of_length_le (show X.length ≤ n by omega)]
theorem rsAt_set {X : List Int} {n g : Nat} {x : Int} (h : X.length = n) (hx : X[g]? = some x) : (rsAt X n g).set g x = rsAt X n (g + 1) := fill_step h hx

end Go.Proofs.Ytmfddenjemoedaa
