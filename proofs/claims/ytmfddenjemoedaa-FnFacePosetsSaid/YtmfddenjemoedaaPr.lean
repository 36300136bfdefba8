/- spec.OppositePoset: what holds while it is made; facts outside the walk. -/
import Derived.Test.YtmfddenjemoedaaPq
namespace Go.Proofs.Ytmfddenjemoedaa
open Go.RowKit

/-- The rows are apart from the slice v. -/
def Apart (w : World) (lo e : Nat) (A : Option Addr) (n c : Nat) (v : Value) : Prop :=
  ∃ vals : List Value, w.ownsRow lo e 1 (.slice A n c) n vals ∧ ∀ (j : Nat) (u : Value), vals[j]? = some u → ∀ k, u.ownBlock = some k → v.ownBlock ≠ some k
theorem ownSS_kept {w w' : World} {lo hi e n c b m : Nat} {A : Option Addr} {xss : List (List Int)} {v : Value} {vs : List Value} (h : OwnSS w lo hi e A n c xss) (he : e ≠ 2) (hv : w.ownsRow b 2 1 v m vs) (hg : w.grownBy w' v.ownBlock) (ap : Apart w lo e A n c v) : OwnSS w' lo hi e A n c xss := by
  obtain ⟨vals, h1, hp, h2, h3, h4⟩ := h
  obtain ⟨vals', q1, q2⟩ := ap
  obtain rfl := row_unique h1 q1
  refine ⟨vals, h1.kept hg (own_ne h1 hv he), hp, h2, fun j xs hj => ?_, h4⟩
  obtain ⟨A', c', e1, o1, p1⟩ := h3 j xs hj
  refine ⟨A', c', e1, o1.kept hg ?_, p1⟩
  cases hb : (Value.slice A' xs.length c').ownBlock with
  | none => exact .inl rfl
  | some k => exact .inr fun h => q2 j _ e1 k hb h.symm

structure OpS (w w1 wr : World) (cs : Array Value) (R : Int) (hi g c4 gb d4 : Nat) (A4 B4 : Option Addr) (rs : List Int) (rows : List (List Int)) : Prop where
  k : Bp w wr cs 62
  z : Blk wr (w.heap.size + 1) #[.int .i64 0, .slice none 0 0, .slice none 0 0] 62
  o : Blk wr w1.heap.size #[.int .i64 R, .slice A4 g c4, .slice B4 gb d4] 62
  r : wr.ownsRow (w1.heap.size + 1) 2 1 (.slice A4 g c4) g (ints rs)
  rin : InB (.slice A4 g c4) (w1.heap.size + 1) hi
  s : OwnSS wr (w1.heap.size + 1) hi 24 B4 gb d4 rows
  ap : Apart wr (w1.heap.size + 1) 24 B4 gb d4 (.slice A4 g c4)
  h1 : w.heap.size + 2 ≤ w1.heap.size
  h2 : w1.heap.size + 1 ≤ hi
  hi : hi ≤ wr.heap.size
section
variable {w w1 wr w4 : World} {cs : Array Value} {R : Int} {hi g c4 gb d4 : Nat} {A4 B4 : Option Addr} {rs : List Int} {rows : List (List Int)}
theorem OpS.go (h : OpS w w1 wr cs R hi g c4 gb d4 A4 B4 rs rows) (hb : Below wr.heap.size wr w4) : OpS w w1 w4 cs R hi g c4 gb d4 A4 B4 rs rows :=
  ⟨h.k.go hb, h.z.go hb, h.o.go hb, own_below h.r hb (Nat.le_refl _), h.rin, ownSS_below h.s hb (Nat.le_refl _), by obtain ⟨vals, a, b⟩ := h.ap; exact ⟨vals, own_below a hb (Nat.le_refl _), b⟩, h.h1, h.h2, Nat.le_trans h.hi hb.size⟩
theorem OpS.rpush {c5 : Nat} {A5 : Option Addr} {x : Int} {o : Obj} (h : OpS w w1 wr cs R hi g c4 gb d4 A4 B4 rs rows)
    (own4 : w4.ownsRow (w1.heap.size + 1) 2 1 (.slice A5 (g + 1) c5) (g + 1) (ints rs ++ [.int .i64 x])) (gr : (wr.alloc o).grownBy w4 (Value.slice A4 g c4).ownBlock)
    (hat : (Value.slice A5 (g + 1) c5).ownBlock = (Value.slice A4 g c4).ownBlock ∨ (Value.slice A5 (g + 1) c5).ownBlock = some (wr.heap.size + 1)) :
    Blk w4 w1.heap.size #[.int .i64 R, .slice A4 g c4, .slice B4 gb d4] 62 ∧ OpS w w1 (w4.setCell ⟨w1.heap.size, 1, none⟩ (.slice A5 (g + 1) c5)) cs R w4.heap.size (g + 1) c5 gb d4 A5 B4 (rs ++ [x]) rows := by
  have h1 := h.h1
  have h2 := h.h2
  have h3 := h.hi
  have hgz := gr.size
  simp at hgz
  have T : Turns (w1.heap.size + 1) hi wr w4 := (Turns.of_below (below1 wr o) (Nat.le_refl _)).trans (Turns.of_grown gr h.rin)
  have hT1 := turns_set w4 w1.heap.size 1 (.slice A5 (g + 1) c5)
  have T2 : Turns w1.heap.size hi wr (w4.setCell ⟨w1.heap.size, 1, none⟩ (.slice A5 (g + 1) c5)) := (T.wide (by omega) (Nat.le_refl _)).trans (hT1.wide (Nat.le_refl _) (by omega))
  have ho := h.o.turns T (.inl (by omega))
  have own5 := own_in own4
  have hal := h.go (below1 wr o)
  have s4 := ownSS_kept hal.s (by decide) hal.r gr hal.ap
  have hb : 1 ≤ g + 1 := by omega
  refine ⟨ho, h.k.tu T2 (by omega), h.z.turns T2 (.inl (by omega)), by have := ho.set 1 (.slice A5 (g + 1) c5); simpa using this, ?_, inB_wide own5 (Nat.le_refl _) (Nat.le_refl _), ownSS_wide (ownSS_turns s4 hT1 (.inr (Nat.le_refl _))) (Nat.le_refl _) (by omega), ?_, h1, by omega, by simp⟩
  · have := hT1.own own4 own5 (.inr (Nat.le_refl _))
    simpa [ints] using this
  · obtain ⟨vals, q1, q2⟩ := hal.ap
    obtain ⟨vals2, a1, a2, a3, a4, a5⟩ := hal.s
    obtain rfl := row_unique a1 q1
    have q3 := q1.kept gr (own_ne q1 hal.r (by decide))
    have q4 := hT1.own q3 (own_in q3) (.inr (Nat.le_refl _))
    refine ⟨vals2, q4, fun j u hu k hk hkk => ?_⟩
    rcases hat with e | e
    · rw [e] at hkk
      exact q2 j u hu k hk hkk
    · rw [e] at hkk
      injection hkk with hkk
      have hjl : j < rows.length := by have := (List.getElem?_eq_some_iff.1 hu).1; have := a1.1; omega
      obtain ⟨A2, c2, e2, o2, p2⟩ := a4 j _ (List.getElem?_eq_getElem hjl)
      rw [hu] at e2
      injection e2 with e2
      subst e2
      have := p2 k hk
      omega
theorem OpS.rpush1 {v : Value} {o : Obj} (h : OpS w w1 wr cs R hi g c4 gb d4 A4 B4 rs rows) (gr : (wr.alloc o).grownBy w4 v.ownBlock) (hv : v = .slice A4 g c4) : Bp w w4 cs 62 := by
  subst hv
  have h1 := h.h1
  have h2 := h.h2
  exact h.k.tu ((Turns.of_below (below1 wr o) (Nat.le_refl _)).trans (Turns.of_grown gr h.rin)) (by omega)
theorem OpS.rpush2 {v : Value} {o : Obj} (h : OpS w w1 wr cs R hi g c4 gb d4 A4 B4 rs rows) (gr : (wr.alloc o).grownBy w4 v.ownBlock) (hv : v = .slice A4 g c4) : Blk w4 w1.heap.size #[.int .i64 R, .slice A4 g c4, .slice B4 gb d4] 62 := by
  subst hv
  exact h.o.turns ((Turns.of_below (below1 wr o) (Nat.le_refl _)).trans (Turns.of_grown gr h.rin)) (.inl (by omega))
theorem OpS.bpush {c6 d5 bc : Nat} {A6 B5 : Option Addr} {D : List Int} {o : Obj} (h : OpS w w1 wr cs R hi g c4 gb d4 A4 B4 rs rows) (hD : wr.ownsRow bc 2 1 (.slice A6 D.length c6) D.length (ints D)) (hbc : hi ≤ bc)
    (hnew : ∀ vals, wr.ownsRow (w1.heap.size + 1) 24 1 (.slice B4 gb d4) gb vals → w4.ownsRow (w1.heap.size + 1) 24 1 (.slice B5 (gb + 1) d5) (gb + 1) (vals ++ [.slice A6 D.length c6])) (gr : (wr.alloc o).grownBy w4 (Value.slice B4 gb d4).ownBlock) :
    Blk w4 w1.heap.size #[.int .i64 R, .slice A4 g c4, .slice B4 gb d4] 62 ∧ OpS w w1 (w4.setCell ⟨w1.heap.size, 2, none⟩ (.slice B5 (gb + 1) d5)) cs R w4.heap.size g c4 (gb + 1) d5 A4 B5 rs (rows ++ [D]) := by
  have h1 := h.h1
  have h2 := h.h2
  have h3 := h.hi
  have hgz := gr.size
  simp at hgz
  have hp := h.s.choose_spec.2.1
  have T : Turns (w1.heap.size + 1) hi wr w4 := (Turns.of_below (below1 wr o) (Nat.le_refl _)).trans (Turns.of_grown gr hp)
  have hT1 := turns_set w4 w1.heap.size 2 (.slice B5 (gb + 1) d5)
  have T2 : Turns w1.heap.size hi wr (w4.setCell ⟨w1.heap.size, 2, none⟩ (.slice B5 (gb + 1) d5)) := (T.wide (by omega) (Nat.le_refl _)).trans (hT1.wide (Nat.le_refl _) (by omega))
  have ho := h.o.turns T (.inl (by omega))
  have hs := ownSS_push h.s (by decide) hD hbc (by omega) hnew gr
  obtain ⟨vals, q1, q2⟩ := h.ap
  have hn := hnew vals q1
  have hr := (h.r.alloc o).kept gr (own_ne (h.r.alloc o) (q1.alloc o) (by decide))
  refine ⟨ho, h.k.tu T2 (by omega), h.z.turns T2 (.inl (by omega)), by have := ho.set 2 (.slice B5 (gb + 1) d5); simpa using this, hT1.own hr (own_in hr) (.inr (Nat.le_refl _)), inB_wide h.rin (Nat.le_refl _) (by omega), ownSS_turns hs hT1 (.inr (Nat.le_refl _)), ?_, h1, by omega, by simp⟩
  refine ⟨_, hT1.own hn (own_in hn) (.inr (Nat.le_refl _)), fun j u hu k hk hkk => ?_⟩
  by_cases hj : j < vals.length
  · rw [List.getElem?_append_left hj] at hu
    exact q2 j u hu k hk hkk
  · rw [List.getElem?_append_right (by omega)] at hu
    have : u = .slice A6 D.length c6 := by
      have := List.mem_of_getElem? hu
      simpa using this
    subst this
    have e1 := hD.lt k hk
    have e2 := h.rin k hkk
    omega
end
end Go.Proofs.Ytmfddenjemoedaa
