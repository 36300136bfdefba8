/- Frames: what has turned lies in a range of blocks; rows of rows. Plain facts. -/
import Derived.Test.YtbjfeogkdfmjpaaPush
namespace Go.Proofs.Ytbjfeogkdfmjpaa
open Go.RowKit

/-- Of what was there, at most the blocks in [lo, hi) have turned. -/
structure Turns (lo hi : Nat) (w w' : World) : Prop where
  os : w'.os = w.os
  tape : w'.tape = w.tape
  output : w'.output = w.output
  size : w.heap.size ≤ w'.heap.size
  block : ∀ k, k < w.heap.size → (k < lo ∨ hi ≤ k) → w'.heap[k]? = w.heap[k]?

section
variable {w w' w'' : World} {lo hi : Nat}
theorem Turns.refl (lo hi : Nat) (w : World) : Turns lo hi w w := ⟨rfl, rfl, rfl, Nat.le_refl _, fun _ _ _ => rfl⟩
theorem Turns.trans (h : Turns lo hi w w') (h' : Turns lo hi w' w'') : Turns lo hi w w'' :=
  ⟨h'.os.trans h.os, h'.tape.trans h.tape, h'.output.trans h.output, Nat.le_trans h.size h'.size, fun k hk hr => (h'.block k (Nat.lt_of_lt_of_le hk h.size) hr).trans (h.block k hk hr)⟩
theorem Turns.of_below {B : Nat} (h : Below B w w') (hB : w.heap.size ≤ B) : Turns lo hi w w' := ⟨h.os, h.tape, h.output, h.size, fun k hk _ => h.block k (by omega)⟩
theorem Turns.of_grown {v : Value} (h : w.grownBy w' v.ownBlock) (hp : InB v lo hi) : Turns lo hi w w' :=
  ⟨h.os, h.tape, h.output, h.size, fun k hk hr => h.block k hk fun e => by have := hp k e.symm; omega⟩
theorem Turns.wide {lo' hi' : Nat} (h : Turns lo hi w w') (h1 : lo' ≤ lo) (h2 : hi ≤ hi') : Turns lo' hi' w w' :=
  ⟨h.os, h.tape, h.output, h.size, fun k hk hr => h.block k hk (by omega)⟩
theorem Turns.below {B : Nat} {w0 : World} (h : Below B w0 w) (ht : Turns lo hi w w') (hB : B ≤ w.heap.size) (hlo : B ≤ lo) : Below B w0 w' :=
  ⟨ht.os.trans h.os, ht.tape.trans h.tape, ht.output.trans h.output, Nat.le_trans h.size ht.size, fun k hk => (ht.block k (by omega) (by omega)).trans (h.block k hk)⟩
theorem Turns.own {base e n c lo' hi' : Nat} {A : Option Addr} {vs : List Value} (ht : Turns lo hi w w') (h : w.ownsRow base e 1 (.slice A n c) n vs) (hp : InB (.slice A n c) lo' hi') (hd : hi' ≤ lo ∨ hi ≤ lo') :
    w'.ownsRow base e 1 (.slice A n c) n vs := by
  refine ⟨h.1, ?_⟩
  rcases h.2 with hn | ⟨g, cap, cur, hv, hb, hg, rest⟩
  · exact .inl hn
  · refine .inr ⟨g, cap, cur, hv, hb, ?_, rest⟩
    have hgs : g < w.heap.size := (Array.getElem?_eq_some_iff.1 hg).1
    have := hp g (by rw [hv]; rfl)
    rw [ht.block g hgs (by omega)]
    exact hg
theorem Turns.rd {A : Option Addr} {vs : List Value} (ht : Turns lo hi w w') (h : Rd w A vs) (hp : ∀ b o, A = some ⟨b, o, none⟩ → b < lo ∨ hi ≤ b) : Rd w' A vs := fun hl => by
  obtain ⟨b, o, e, hc⟩ := h hl
  refine ⟨b, o, e, fun k u hu => ?_⟩
  have h1 := hc k u hu
  have hlt : b < w.heap.size := World.block_lt_of_cell? w _ h1
  exact (World.cell?_of_block (w := w) (ht.block b hlt (hp b o e))).trans h1
end

/-- The slice value with the address A reads the rows xss. -/
def RdSS (w : World) (A : Option Addr) (xss : List (List Int)) : Prop :=
  ∃ vals : List Value, Rd w A vals ∧ vals.length = xss.length ∧ ∀ (j : Nat) (xs : List Int), xss[j]? = some xs → ∃ (A' : Option Addr) (c' : Nat), vals[j]? = some (Value.slice A' xs.length c') ∧ Rd w A' (ints xs) ∧ xs.length ≤ 9223372036854775807
/-- The slice value owns the rows xss, each in a block of its own; all blocks lie in [lo, hi). -/
def OwnSS (w : World) (lo hi : Nat) (e : TypeId) (A : Option Addr) (n c : Nat) (xss : List (List Int)) : Prop :=
  ∃ vals : List Value, w.ownsRow lo e 1 (.slice A n c) n vals ∧ InB (.slice A n c) lo hi ∧ xss.length = n ∧
    (∀ (j : Nat) (xs : List Int), xss[j]? = some xs → ∃ (A' : Option Addr) (c' : Nat), vals[j]? = some (Value.slice A' xs.length c') ∧ w.ownsRow lo 2 1 (.slice A' xs.length c') xs.length (ints xs) ∧ InB (.slice A' xs.length c') lo hi) ∧
    (∀ (i j : Nat) (u v : Value), i ≠ j → vals[i]? = some u → vals[j]? = some v → ∀ k, u.ownBlock = some k → v.ownBlock ≠ some k)
section
variable {w w' : World} {A : Option Addr} {xss : List (List Int)} {base e n c lo hi : Nat}
theorem own_len {vs : List Value} (h : w.ownsRow base e 1 (.slice A n c) n vs) : n ≤ 9223372036854775807 := by
  rcases h.2 with ⟨_, h0⟩ | ⟨g, cap, cur, _, _, _, h1, h2, _⟩
  · omega
  · unfold maxLen at h2; omega
theorem RdSS.nil : RdSS w A [] := ⟨[], Rd.nil, rfl, fun j xs h => by simp at h⟩
theorem RdSS.keep (h : RdSS w A xss) (hb : Below w.heap.size w w') : RdSS w' A xss := by
  obtain ⟨vals, h1, h2, h3⟩ := h
  exact ⟨vals, h1.keep hb, h2, fun j xs hj => by obtain ⟨A', c', h4, h5, h6⟩ := h3 j xs hj; exact ⟨A', c', h4, h5.keep hb, h6⟩⟩
theorem RdSS.row (h : RdSS w A xss) {k : Nat} (hk : k < xss.length) :
    ∃ (b o : Nat) (A' : Option Addr) (c' : Nat) (xs : List Int), A = some ⟨b, o, none⟩ ∧ xss[k]? = some xs ∧ w.cell? ⟨b, o + k, none⟩ = some (.slice A' xs.length c') ∧ Rd w A' (ints xs) ∧ xs.length ≤ 9223372036854775807 := by
  obtain ⟨vals, h1, h2, h3⟩ := h
  obtain ⟨A', c', h4, h5, h6⟩ := h3 k xss[k] (List.getElem?_eq_getElem hk)
  obtain ⟨b, o, e, hc⟩ := h1 (by omega)
  exact ⟨b, o, A', c', xss[k], e, List.getElem?_eq_getElem hk, hc k _ h4, h5, h6⟩
theorem ownSS_rd (h : OwnSS w lo hi e A n c xss) : RdSS w A xss := by
  obtain ⟨vals, h1, _, h2, h3, _⟩ := h
  exact ⟨vals, own_rd h1, by have := h1.1; omega, fun j xs hj => by obtain ⟨A', c', h4, h5, _⟩ := h3 j xs hj; exact ⟨A', c', h4, own_rd h5, own_len h5⟩⟩
theorem ownSS_below {B : Nat} (h : OwnSS w lo hi e A n c xss) (hb : Below B w w') (hB : w.heap.size ≤ B) : OwnSS w' lo hi e A n c xss := by
  obtain ⟨vals, h1, hp, h2, h3, h4⟩ := h
  exact ⟨vals, own_below h1 hb hB, hp, h2, fun j xs hj => by obtain ⟨A', c', h5, h6, h7⟩ := h3 j xs hj; exact ⟨A', c', h5, own_below h6 hb hB, h7⟩, h4⟩
theorem ownSS_turns {lo' hi' : Nat} (h : OwnSS w lo hi e A n c xss) (ht : Turns lo' hi' w w') (hd : hi ≤ lo' ∨ hi' ≤ lo) : OwnSS w' lo hi e A n c xss := by
  obtain ⟨vals, h1, hp, h2, h3, h4⟩ := h
  exact ⟨vals, ht.own h1 hp hd, hp, h2, fun j xs hj => by obtain ⟨A', c', h5, h6, h7⟩ := h3 j xs hj; exact ⟨A', c', h5, ht.own h6 h7 hd, h7⟩, h4⟩
theorem ownSS_nil (w : World) (lo hi e : Nat) : OwnSS w lo hi e none 0 0 [] := ⟨[], World.ownsRow_nil _ _ _ _, fun k hk => by simp [Value.ownBlock] at hk, rfl, fun j xs h => by simp at h, fun i j u v _ h => by simp at h⟩
theorem inB_wide {v : Value} {lo' hi' : Nat} (h : InB v lo hi) (h1 : lo' ≤ lo) (h2 : hi ≤ hi') : InB v lo' hi' := fun k hk => by have := h k hk; omega
theorem ownSS_wide {lo' hi' : Nat} (h : OwnSS w lo hi e A n c xss) (h1 : lo' ≤ lo) (h2 : hi ≤ hi') : OwnSS w lo' hi' e A n c xss := by
  obtain ⟨vals, a1, hp, a2, h3, h4⟩ := h
  exact ⟨vals, own_base a1 h1, inB_wide hp h1 h2, a2, fun j xs hj => by obtain ⟨A', c', h5, h6, h7⟩ := h3 j xs hj; exact ⟨A', c', h5, own_base h6 h1, inB_wide h7 h1 h2⟩, h4⟩
end
end Go.Proofs.Ytbjfeogkdfmjpaa
