/- What holds at the loops that find distances: facts outside the walks. -/
import Derived.Test.YtjkddoiacifhpaaWm6
import Derived.Test.YtjkddoiacifhpaaRen
namespace Go.Proofs.Ytjkddoiacifhpaa
open Go.RowKit

/-- The list that is answered lies before the list of the points reached; the struct that came in is as it was. -/
structure DyS (w : World) (w1 : Nat) (wr : World) (v : Value) (T : TypeId) (g cg n : Nat) (A : Option Addr) (m c : Nat) (D O : List Int) : Prop where
  bx : Bx w wr v T
  out : wr.ownsRow (w.heap.size + 1) 2 1 (.slice (some ⟨g, 0, none⟩) n cg) n (ints D)
  rch : wr.ownsRow w1 2 1 (.slice A m c) m (ints O)
  lt : g < w1
  w1s : w1 ≤ wr.heap.size
section
variable {w wr w4 : World} {v : Value} {T : TypeId} {w1 g cg n m c c4 : Nat} {A A4 : Option Addr} {D O : List Int}
theorem DyS.go {w2 : World} (h : DyS w w1 wr v T g cg n A m c D O) (hb : Below wr.heap.size wr w2) : DyS w w1 w2 v T g cg n A m c D O :=
  ⟨h.bx.go hb, own_below h.out hb (Nat.le_refl _), own_below h.rch hb (Nat.le_refl _), h.lt, Nat.le_trans h.w1s hb.size⟩
theorem DyS.ne (h : DyS w w1 wr v T g cg n A m c D O) : (Value.slice (some ⟨g, 0, none⟩) n cg).ownBlock ≠ (Value.slice A m c).ownBlock := fun he => by
  have := (h.rch.lt g he.symm).1
  have := h.lt
  omega
theorem DyS.glo (h : DyS w w1 wr v T g cg n A m c D O) : w.heap.size + 1 ≤ g := (h.out.lt g rfl).1
theorem DyS.mark (h : DyS w w1 wr v T g cg n A m c D O) (q : Nat) (x : Value) : (wr.setCell ⟨g, q, none⟩ x).ownsRow w1 2 1 (.slice A m c) m (ints O) :=
  h.rch.kept (h.out.stored q x).2 (by
    cases hk : (Value.slice A m c).ownBlock with
    | none => exact .inl rfl
    | some k => exact .inr fun he => h.ne (by rw [hk]; exact he.symm))
theorem DyS.set (h : DyS w w1 wr v T g cg n A m c D O) (q : Nat) (x : Int) : DyS w w1 (wr.setCell ⟨g, q, none⟩ (.int .i64 x)) v T g cg n A m c (D.set q x) O := by
  have hst := h.out.stored q (.int .i64 x)
  refine ⟨⟨h.bx.bel.setCell (p := ⟨g, q, none⟩) h.glo _⟩, by have h1 := hst.1; rwa [ints_set] at h1, h.mark q _, h.lt, by have := h.w1s; simpa using this⟩
theorem DyS.push {o : Obj} {q x : Int} {p : Nat} (h : DyS w w1 wr v T g cg n A m c D O)
    (own4 : w4.ownsRow w1 2 1 (.slice A4 (m + 1) c4) (m + 1) (ints O ++ [.int .i64 q])) (gr : ((wr.setCell ⟨g, p, none⟩ (.int .i64 x)).alloc o).grownBy w4 (Value.slice A m c).ownBlock) :
    DyS w w1 w4 v T g cg n A4 (m + 1) c4 (D.set p x) (O ++ [q]) := by
  have hs := h.set p x
  have hsz : w.heap.size + 1 ≤ (wr.setCell ⟨g, p, none⟩ (.int .i64 x)).heap.size := hs.bx.size
  have hb2 := hs.bx.bel.alloc hsz o
  have hgz := gr.size
  have hws := hs.w1s
  refine ⟨⟨hb2.grown gr (by simp at hsz ⊢; omega) fun k hk => ?_⟩, (hs.out.alloc o).kept gr (.inr h.ne), by simpa using own4, h.lt, ?_⟩
  · have := (h.rch.lt k hk).1
    have := h.glo
    have := h.lt
    omega
  · simp at hgz hws
    omega
theorem DyS.len (h : DyS w w1 wr v T g cg n A m c D O) : O.length = m ∧ D.length = n := by
  have h1 := h.rch.1
  have h2 := h.out.1
  simp at h1 h2
  omega
end

/-- What is known while the points reached at the places before i are done, and the first j generators at the place i. -/
structure DyM (xss : List (List Int)) (n p i j : Nat) (x : Int) (d : Nat) (D O : List Int) : Prop where
  bf : bfs xss [] (n - (i + 1)) (bfsG [] x (xss.drop j) O) (i + 1) = orbL xss n p
  oi : OInv xss n (p : Int) i O
  di : DInv xss n (p : Int) O D
  hx : O[i]? = some x
  hd : IsD xss (p : Int) x d
  cl : ∀ g ∈ xss.take j, fz g x ∈ O
structure DyT (xss : List (List Int)) (n p i : Nat) (D O : List Int) : Prop where
  bf : bfs xss [] (n - i) O i = orbL xss n p
  oi : OInv xss n (p : Int) i O
  di : DInv xss n (p : Int) O D
section
variable {xss : List (List Int)} {n p i j : Nat} {x : Int} {d : Nat} {D O : List Int}
theorem dtop_start (hp : p < n) : DyT xss n p 0 ((List.replicate n (-1)).set p 0) [(p : Int)] := ⟨rfl, oinv_start hp, dinv_start hp⟩
theorem dtop_in (h : DyT xss n p i D O) (hx : O[i]? = some x) (hi : i < n) : ∃ d, DyM xss n p i 0 x d D O ∧ d ≤ i := by
  obtain ⟨d, hd⟩ := h.oi.ex x (List.mem_of_getElem? hx)
  exact ⟨d, ⟨(bfs_go hx hi).symm.trans h.bf, h.oi, h.di, hx, hd, by simp⟩, h.oi.idx i x d hx hd⟩
theorem dmid_old {g : List Int} {y : Int} (h : DyM xss n p i j x d D O) (hg : xss[j]? = some g) (hy : g.getD x.toNat 0 = y) (hin : y ∈ O) : DyM xss n p i (j + 1) x d D O := by
  have h1 := h.bf
  rw [bfsG_go hg hy, if_pos (by simpa using hin)] at h1
  refine ⟨h1, h.oi, h.di, h.hx, h.hd, fun g' hg' => ?_⟩
  rw [List.take_add_one, hg] at hg'
  rcases List.mem_append.1 hg' with h2 | h2
  · exact h.cl g' h2
  · simp at h2; subst h2; rw [show fz g' x = y from hy]; exact hin
theorem dmid_new {g : List Int} {q : Nat} (h : DyM xss n p i j x d D O) (hg : xss[j]? = some g) (hy : g.getD x.toNat 0 = (q : Int)) (hin : ¬ (q : Int) ∈ O) (hq : q < n) :
    DyM xss n p i (j + 1) x d (D.set q ((d : Int) + 1)) (O ++ [(q : Int)]) := by
  have h1 := h.bf
  have hf : fz g x = (q : Int) := hy
  rw [bfsG_go hg hy, if_neg (by simpa using hin)] at h1
  have hp := oinv_push h.oi h.hx (List.mem_of_getElem? hg) (by rw [hf]; exact hin) (by omega) (by omega) h.hd
  rw [hf] at hp
  have hdp := dinv_push h.di hq hp.2
  refine ⟨h1, hp.1, by simpa using hdp, ?_, h.hd, fun g' hg' => ?_⟩
  · rw [List.getElem?_append_left (List.getElem?_eq_some_iff.1 h.hx).1]; exact h.hx
  · rw [List.take_add_one, hg] at hg'
    rcases List.mem_append.1 hg' with h2 | h2
    · exact List.mem_append.2 (.inl (h.cl g' h2))
    · simp at h2; subst h2; rw [hf]; simp
theorem dmid_end (h : DyM xss n p i j x d D O) (hj : xss.length ≤ j) : DyT xss n p (i + 1) D O := by
  have h1 := h.bf
  rw [bfsG_end hj] at h1
  refine ⟨h1, oinv_next h.oi h.hx fun g hg => h.cl g ?_, h.di⟩
  rwa [List.take_of_length_le hj]
theorem dtop_end (h : DyT xss n p i D O) (hi : O.length ≤ i) (hall : (orbL xss n p).length = n) (hps : Passed n (orbL xss n p)) : D = distL xss n p := by
  have h1 := h.bf
  rw [bfs_done hi] at h1
  refine distL_eq (dinv_ok h.di fun y hy => ?_)
  rw [h1]
  exact mem_all hall hps hy
/-- The distance of a point, as the list has it. -/
theorem dinv_in {q : Nat} (h : DInv xss n (p : Int) O D) (hq : (q : Int) ∈ O) : ∃ e : Nat, D[q]? = some (e : Int) ∧ IsD xss p q e := h.on q hq
end
end Go.Proofs.Ytjkddoiacifhpaa
