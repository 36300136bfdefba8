import Derived.Test.YtmgoaabeopnopaaProg
import Derived.WalkKit
import Derived.Deep.OwnRows
import Derived.Deep.QuietTactic
import Derived.BigQuiet
import Derived.Deep.Draws
import Derived.Lib.Hide
import Derived.WalkLawsBesides
import Derived.Outline
/- Words for slices of int64 in memory: a slice that reads as a list, a slice that the call owns; plain facts, no program. -/
namespace Go.Proofs.Ytmgoaabeopnopaa
open Go.RowKit

abbrev ints (xs : List Int) : List Value := xs.map (Value.int .i64)

/-- The slice value with the address A reads the cells vs. -/
def Rd (w : World) (A : Option Addr) (vs : List Value) : Prop :=
  0 < vs.length → ∃ b o, A = some ⟨b, o, none⟩ ∧ ∀ k u, vs[k]? = some u → w.cell? ⟨b, o + k, none⟩ = some u

theorem ret_bool {a b : Bool} (h : a = b) : Ending.returned (.bool a) = .returned (.bool b) := by rw [h]
theorem ret_i64 {a b : Int} (h : a = b) : Ending.returned (.int .i64 a) = .returned (.int .i64 b) := by rw [h]

section
variable {w w' : World} {A : Option Addr} {vs : List Value} {xs : List Int} {base e n c : Nat}

theorem Rd.nil : Rd w A [] := fun h => absurd h (by simp)

theorem Rd.keep (h : Rd w A vs) (hb : Below w.heap.size w w') : Rd w' A vs := fun hl => by
  obtain ⟨b, o, e, hc⟩ := h hl
  refine ⟨b, o, e, fun k u hu => ?_⟩
  have := hc k u hu
  exact (hb.cell (p := ⟨b, o + k, none⟩) (World.block_lt_of_cell? w _ this)).trans this

theorem Rd.grown {row : Option Nat} (h : Rd w A vs) (hg : w.grownBy w' row) (hr : ∀ b o, A = some ⟨b, o, none⟩ → some b ≠ row) : Rd w' A vs := fun hl => by
  obtain ⟨b, o, e, hc⟩ := h hl
  exact ⟨b, o, e, fun k u hu => hg.cell (hc k u hu) (hr b o e)⟩

theorem Rd.drew (h : Rd w A vs) : Rd w.drew A vs := h
theorem Rd.drewN (h : Rd w A vs) (k : Nat) : Rd (w.drewN k) A vs := h

theorem Rd.int (h : Rd w A (ints xs)) {k : Nat} (hk : k < xs.length) :
    ∃ b o x, A = some ⟨b, o, none⟩ ∧ xs[k]? = some x ∧ w.cell? ⟨b, o + k, none⟩ = some (.int .i64 x) := by
  obtain ⟨b, o, e, hc⟩ := h (by simp; omega)
  exact ⟨b, o, xs[k], e, List.getElem?_eq_getElem hk, hc k _ (by simp [hk])⟩

theorem own_rd (h : w.ownsRow base e 1 (.slice A n c) n vs) : Rd w A vs := fun hl => by
  have hn : n = vs.length := by have := h.1; omega
  rcases h.2 with ⟨_, h0⟩ | ⟨g, cap, cur, hv, _⟩
  · omega
  · simp only [Value.slice.injEq] at hv
    obtain ⟨rfl, _, rfl⟩ := hv
    refine ⟨g, 0, rfl, fun k u hu => ?_⟩
    have hk : k < vs.length := (List.getElem?_eq_some_iff.1 hu).1
    rw [Nat.zero_add, h.cellAt k (by omega), hu]

theorem own_block (h : w.ownsRow base e 1 (.slice A n c) n vs) {b o : Nat} (hA : A = some ⟨b, o, none⟩) : base ≤ b ∧ b < w.heap.size := by
  subst hA
  exact h.lt b rfl

theorem own_below {B : Nat} (h : w.ownsRow base e 1 (.slice A n c) n vs) (hb : Below B w w') (hB : w.heap.size ≤ B) : w'.ownsRow base e 1 (.slice A n c) n vs :=
  h.kept (row := none) ⟨hb.os, hb.tape, hb.output, hb.size, fun k hk _ => hb.block k (by omega)⟩ (by cases hv : (Value.slice A n c).ownBlock <;> simp)

theorem own_cell {g : Nat} {u : Value} (h : w.ownsRow base e 1 (.slice (some ⟨g, 0, none⟩) n c) n vs) {k : Nat} (hk : vs[k]? = some u) : w.cell? ⟨g, k, none⟩ = some u := by
  have := (List.getElem?_eq_some_iff.1 hk).1
  rw [h.cellAt k (by have := h.1; omega), hk]

theorem own_base {base' : Nat} {v : Value} (h : w.ownsRow base e 1 v n vs) (hb : base' ≤ base) : w.ownsRow base' e 1 v n vs := by
  refine ⟨h.1, ?_⟩
  rcases h.2 with hn | ⟨g, cap, cur, hv, hg, rest⟩
  · exact .inl hn
  · exact .inr ⟨g, cap, cur, hv, Nat.le_trans hb hg, rest⟩

/-- The block of a slice value lies in [lo, hi). -/
def InB (v : Value) (lo hi : Nat) : Prop := ∀ k, v.ownBlock = some k → lo ≤ k ∧ k < hi
theorem own_in (h : w.ownsRow base e 1 (.slice A n c) n vs) : InB (.slice A n c) base w.heap.size := fun k hk => h.lt k hk
theorem own_apart {v : Value} {lo hi lo' hi' : Nat} (h : w.ownsRow base e 1 (.slice A n c) n vs) (hg : w.grownBy w' v.ownBlock) (hp : InB (.slice A n c) lo hi) (hp' : InB v lo' hi') (hd : hi ≤ lo' ∨ hi' ≤ lo) :
    w'.ownsRow base e 1 (.slice A n c) n vs := by
  refine h.kept hg ?_
  cases hk : (Value.slice A n c).ownBlock with
  | none => exact .inl rfl
  | some k =>
    right
    intro h2
    have h3 := hp k hk
    have h4 := hp' k h2.symm
    omega
theorem below_mark {B : Nat} {w0 : World} {v : Value} {lo hi : Nat} (h : Below B w0 w) (hg : w.grownBy w' v.ownBlock) (hp : InB v lo hi) (hB : B ≤ w.heap.size) (hlo : B ≤ lo) : Below B w0 w' :=
  h.grown hg hB fun k hk => Nat.le_trans hlo (hp k hk).1

theorem own_shape (h : w.ownsRow base e 1 (.slice A n c) n vs) (hn : 0 < n) : ∃ g, A = some ⟨g, 0, none⟩ := by
  rcases h.2 with ⟨_, h0⟩ | ⟨g, cap, cur, hv, _⟩
  · omega
  · simp only [Value.slice.injEq] at hv
    exact ⟨g, hv.1⟩

/-- What a call gives back that makes a slice and a code: the list, in memory of its own, and nothing that was there has turned. -/
def RetS (w : World) (L : List Int) (C : Int) (e : Ending) (w' : World) : Prop :=
  ∃ A c, e = .returned (.tuple #[.slice A L.length c, .int .i64 C]) ∧ w'.ownsRow w.heap.size 2 1 (.slice A L.length c) L.length (ints L) ∧ Below w.heap.size w w'
def Ret1 (w : World) (L : List Int) (e : Ending) (w' : World) : Prop :=
  ∃ A c, e = .returned (.slice A L.length c) ∧ w'.ownsRow w.heap.size 2 1 (.slice A L.length c) L.length (ints L) ∧ Below w.heap.size w w'

theorem make_own (w : World) (z : Value) (n e : Nat) (hm : n ≤ maxLen) :
    (w.alloc (.cells (madeCells #[z] n) e)).ownsRow w.heap.size e 1 (.slice (some ⟨w.heap.size, 0, none⟩) n n) n (List.replicate n z) := by
  have h := World.ownsRow_lit (base := w.heap.size) (e := e) (size := 1) w (madeCells #[z] n) n (Nat.le_refl _) hm (by simp [size_madeCells])
  rwa [toList_madeCells_one] at h
end

theorem ints_set (xs : List Int) (k : Nat) (x : Int) : (ints xs).set k (.int .i64 x) = ints (xs.set k x) := by simp [List.map_set]
theorem fill_step {xs : List Int} {n k : Nat} {x : Int} (hn : xs.length = n) (hx : xs[k]? = some x) :
    (xs.take k ++ List.replicate (n - k) (0 : Int)).set k x = xs.take (k + 1) ++ List.replicate (n - (k + 1)) 0 := by
  have hk : k < xs.length := (List.getElem?_eq_some_iff.1 hx).1
  rw [List.set_append_right _ _ (by simp; omega), List.take_add_one, hx]
  have e : k - (xs.take k).length = 0 := by simp; omega
  have e2 : n - k = (n - (k + 1)) + 1 := by omega
  rw [e, e2, List.replicate_succ]
  simp
theorem fill_at {xs : List Int} {n k : Nat} (hk : k < n) (hn : xs.length = n) : (ints (xs.take k ++ List.replicate (n - k) (0 : Int)))[k]? = some (.int .i64 0) := by
  rw [ints, List.map_append, List.getElem?_append_right (by simp; omega)]
  simp [List.getElem?_replicate]
  omega
/-- What the law writes into a slice to see whose memory it is: k, k + 1, .. -/
def marks (k : Int) (n : Nat) : List Int := (List.range n).map fun (j : Nat) => k + (j : Int)
theorem marks_length (k : Int) (n : Nat) : (marks k n).length = n := by simp [marks]
theorem marks_at {k : Int} {n j : Nat} (h : j < n) : (marks k n)[j]? = some (k + (j : Int)) := by simp [marks, h]
theorem mark_step {xs : List Int} {n j : Nat} {k : Int} (hn : xs.length = n) (hj : j < n) :
    (marks k j ++ xs.drop j).set j (k + (j : Int)) = marks k (j + 1) ++ xs.drop (j + 1) := by
  rw [List.set_append_right _ _ (by simp [marks])]
  have e : j - (marks k j).length = 0 := by simp [marks]
  rw [e, List.drop_eq_getElem_cons (by omega : j < xs.length), List.set_cons_zero]
  simp [marks, List.range_succ]
theorem mark_cell {xs : List Int} {n j : Nat} {k : Int} (hn : xs.length = n) (hj : j < n) : ∃ u, (ints (marks k j ++ xs.drop j))[j]? = some (.int .i64 u) :=
  ⟨xs[j], by
    rw [ints, List.map_append, List.getElem?_append_right (by simp [marks])]
    simp [marks, show j < xs.length by omega]⟩
end Go.Proofs.Ytmgoaabeopnopaa
/- Plain facts on permutations as lists; no program. -/
namespace Go.Proofs.Ytmgoaabeopnopaa

/-- Each of 0 .. length - 1 once. -/
def IsP (xs : List Int) : Prop := (∀ x ∈ xs, 0 ≤ x ∧ x < (xs.length : Int)) ∧ xs.Nodup
instance (xs : List Int) : Decidable (IsP xs) := inferInstanceAs (Decidable (_ ∧ _))
def okP (xs : List Int) : Bool := decide (xs.length ≤ 400 ∧ IsP xs)

def seenL (n : Nat) (l : List Int) : List Value := (List.range n).map fun (j : Nat) => .bool (decide ((j : Int) ∈ l))
theorem seenL_length (n : Nat) (l : List Int) : (seenL n l).length = n := by simp [seenL]
theorem seenL_at {n m : Nat} {l : List Int} (h : m < n) : (seenL n l)[m]? = some (.bool (decide ((m : Int) ∈ l))) := by simp [seenL, h]
theorem seenL_nil (n : Nat) : seenL n [] = List.replicate n (.bool false) := by
  apply List.ext_getElem (by simp [seenL])
  intro i h1 h2
  simp [seenL]
theorem seenL_set {n m : Nat} {l : List Int} : (seenL n l).set m (.bool true) = seenL n (l ++ [(m : Int)]) := by
  apply List.ext_getElem (by simp [seenL])
  intro i h1 h2
  rw [List.getElem_set]
  by_cases e : m = i
  · subst e
    simp [seenL]
  · rw [if_neg e]
    have e' : ¬ (i : Int) = (m : Int) := by omega
    simp [seenL, e']

theorem mem_of_get {xs : List Int} {k : Nat} {x : Int} (h : xs[k]? = some x) : x ∈ xs := List.mem_of_getElem? h
theorem not_ok_range {xs : List Int} {n k : Nat} {x : Int} (hn : xs.length = n) (hx : xs[k]? = some x) (h : x < 0 ∨ (n : Int) ≤ x) : okP xs = false := by
  apply decide_eq_false
  rintro ⟨_, hp, _⟩
  have := hp x (mem_of_get hx)
  rw [hn] at this
  omega
theorem not_ok_long {xs : List Int} {n : Nat} (hn : xs.length = n) (h : 400 < n) : okP xs = false := decide_eq_false (by rintro ⟨h1, _⟩; omega)
theorem not_ok_seen {xs : List Int} {k : Nat} {x : Int} (hx : xs[k]? = some x) (h : x ∈ xs.take k) : okP xs = false := by
  apply decide_eq_false
  rintro ⟨_, _, hd⟩
  obtain ⟨j, hj, he⟩ := List.mem_iff_getElem.1 h
  have hk : k < xs.length := (List.getElem?_eq_some_iff.1 hx).1
  have hj' : j < k := by have := hj; simp at this; omega
  rw [List.getElem_take] at he
  have hxe : xs[k] = x := (List.getElem?_eq_some_iff.1 hx).2
  exact List.pairwise_iff_getElem.1 hd j k (Nat.lt_trans hj' hk) hk hj' (he.trans hxe.symm)
/-- What holds of the first k elements while no fault has been found. -/
def goodTo (xs : List Int) (n k : Nat) : Prop := (∀ x ∈ xs.take k, 0 ≤ x ∧ x < (n : Int)) ∧ (xs.take k).Nodup
theorem goodTo_zero (xs : List Int) (n : Nat) : goodTo xs n 0 := by simp [goodTo]
theorem goodTo_succ {xs : List Int} {n k m : Nat} (h : goodTo xs n k) (hx : xs[k]? = some (m : Int)) (hm : m < n) (hs : ¬ (m : Int) ∈ xs.take k) : goodTo xs n (k + 1) := by
  unfold goodTo at h ⊢
  rw [List.take_add_one, hx]
  refine ⟨fun x hx => ?_, ?_⟩
  · rcases List.mem_append.1 hx with h1 | h1
    · exact h.1 x h1
    · simp at h1; omega
  · rw [List.nodup_append]
    refine ⟨h.2, by simp, fun a ha b hb => ?_⟩
    simp at hb
    subst hb
    rintro rfl
    exact hs ha
theorem goodTo_all {xs : List Int} {n k : Nat} (hn : xs.length = n) (h4 : n ≤ 400) (hk : n ≤ k) (h : goodTo xs n k) : okP xs = true := by
  unfold goodTo at h
  rw [List.take_of_length_le (by omega)] at h
  exact decide_eq_true ⟨by omega, by unfold IsP; rw [hn]; exact h⟩
end Go.Proofs.Ytmgoaabeopnopaa
/- 'append' of one element onto a slice that the call owns, as a law of the walk; plain facts, no program of its own. -/
namespace Go.Proofs.Ytmgoaabeopnopaa
open Go.RowKit

theorem wpList_push {P : Program} (w : World) {ops : Array Oper} {rest : List Oper} {o : Oper} {a : Act} {Q : Exit → Act → World → Prop} (hgd : o.guard = none) (s x : Operand) (t e : TypeId)
    (ho : o.op = .call { callee := .builtin .append, args := #[s, x], argTypes := #[t, t] }) (ht : P.underlying t = some (.slice e))
    (z : Value) (bytes : Nat) (hinfo : (P.info? e).map (fun i => (i.zero, i.size, i.bytes)) = some (some z, 1, bytes)) (hz : z.cells.size = 1)
    (base : Nat) (v : Value) (n : Nat) (vs : List Value) (hs : a.eval s = v) (hown : w.ownsRow base e 1 v n vs) (u : Value) (hu : u.oneCell' = true)
    (hx : a.eval x = .slice (some ⟨w.heap.size, 0, none⟩) 1 1) (hn : (n + 1) * bytes ≤ 140737488355328) (hm : n + 1 ≤ 9223372036854775807) (hb : base ≤ w.heap.size)
    (h : ∀ A' c' w', w'.ownsRow base e 1 (.slice A' (n + 1) c') (n + 1) (vs ++ [u]) → Below base w w' → (∀ B, B ≤ w.heap.size → (∀ k, v.ownBlock = some k → B ≤ k) → Below B w w') → wpList P ops Q rest (a.put o.dst (.slice A' (n + 1) c')) w') :
    wpList P ops Q (o :: rest) a (w.alloc (.cells #[u] e)) := by
  obtain ⟨i, hi, hzz⟩ := Option.map_eq_some_iff.1 hinfo
  simp only [Prod.mk.injEq] at hzz
  obtain ⟨h1, h2, h3⟩ := hzz
  refine wpList_append_own _ hgd s x t ho base e i z 1 bytes ht hi h1 h2 h3 hz (by decide) v n vs hs (hown.alloc _) ⟨w.heap.size, 0, none⟩ 1 1 [u] hx rfl ?_ ?_ (by unfold maxLen; omega) hn (by simp; omega) ?_
  · intro j y hj
    match j, hj with
    | 0, hj =>
      simp at hj
      subst hj
      simp [Addr.add]
  · intro y hy
    simp at hy
    subst hy
    exact hu
  · intro v' w' hown' hg _
    rcases hown'.2 with ⟨_, h0⟩ | ⟨g, cap, cur, rfl, rest⟩
    · omega
    · have key : ∀ B, B ≤ w.heap.size → (∀ k, v.ownBlock = some k → B ≤ k) → Below B w w' := fun B hB hk =>
        ((Below.refl B w).alloc hB _).grown hg (by simp; omega) hk
      exact h _ _ _ hown' (key base hb fun k hk => (hown.lt k hk).1) key
end Go.Proofs.Ytmgoaabeopnopaa
/- Frames: what has turned lies in a range of blocks; rows of rows. Plain facts. -/
namespace Go.Proofs.Ytmgoaabeopnopaa
open Go.RowKit

/-- Of what was there, at most the blocks in [lo, hi) have turned. -/
structure Turns (lo hi : Nat) (w w' : World) : Prop where
  os : w'.os = w.os
  tape : w'.tape = w.tape
  output : w'.output = w.output
  size : w.heap.size ≤ w'.heap.size
  block : ∀ k, k < w.heap.size → (k < lo ∨ hi ≤ k) → w'.heap[k]? = w.heap[k]?

section
variable {w w' w'' : World} {lo hi : Nat}
theorem Turns.refl (lo hi : Nat) (w : World) : Turns lo hi w w := ⟨rfl, rfl, rfl, Nat.le_refl _, fun _ _ _ => rfl⟩
theorem Turns.trans (h : Turns lo hi w w') (h' : Turns lo hi w' w'') : Turns lo hi w w'' :=
  ⟨h'.os.trans h.os, h'.tape.trans h.tape, h'.output.trans h.output, Nat.le_trans h.size h'.size, fun k hk hr => (h'.block k (Nat.lt_of_lt_of_le hk h.size) hr).trans (h.block k hk hr)⟩
theorem Turns.of_below {B : Nat} (h : Below B w w') (hB : w.heap.size ≤ B) : Turns lo hi w w' := ⟨h.os, h.tape, h.output, h.size, fun k hk _ => h.block k (by omega)⟩
theorem Turns.of_grown {v : Value} (h : w.grownBy w' v.ownBlock) (hp : InB v lo hi) : Turns lo hi w w' :=
  ⟨h.os, h.tape, h.output, h.size, fun k hk hr => h.block k hk fun e => by have := hp k e.symm; omega⟩
theorem Turns.wide {lo' hi' : Nat} (h : Turns lo hi w w') (h1 : lo' ≤ lo) (h2 : hi ≤ hi') : Turns lo' hi' w w' :=
  ⟨h.os, h.tape, h.output, h.size, fun k hk hr => h.block k hk (by omega)⟩
theorem Turns.below {B : Nat} {w0 : World} (h : Below B w0 w) (ht : Turns lo hi w w') (hB : B ≤ w.heap.size) (hlo : B ≤ lo) : Below B w0 w' :=
  ⟨ht.os.trans h.os, ht.tape.trans h.tape, ht.output.trans h.output, Nat.le_trans h.size ht.size, fun k hk => (ht.block k (by omega) (by omega)).trans (h.block k hk)⟩
theorem Turns.own {base e n c lo' hi' : Nat} {A : Option Addr} {vs : List Value} (ht : Turns lo hi w w') (h : w.ownsRow base e 1 (.slice A n c) n vs) (hp : InB (.slice A n c) lo' hi') (hd : hi' ≤ lo ∨ hi ≤ lo') :
    w'.ownsRow base e 1 (.slice A n c) n vs := by
  refine ⟨h.1, ?_⟩
  rcases h.2 with hn | ⟨g, cap, cur, hv, hb, hg, rest⟩
  · exact .inl hn
  · refine .inr ⟨g, cap, cur, hv, hb, ?_, rest⟩
    have hgs : g < w.heap.size := (Array.getElem?_eq_some_iff.1 hg).1
    have := hp g (by rw [hv]; rfl)
    rw [ht.block g hgs (by omega)]
    exact hg
theorem Turns.rd {A : Option Addr} {vs : List Value} (ht : Turns lo hi w w') (h : Rd w A vs) (hp : ∀ b o, A = some ⟨b, o, none⟩ → b < lo ∨ hi ≤ b) : Rd w' A vs := fun hl => by
  obtain ⟨b, o, e, hc⟩ := h hl
  refine ⟨b, o, e, fun k u hu => ?_⟩
  have h1 := hc k u hu
  have hlt : b < w.heap.size := World.block_lt_of_cell? w _ h1
  exact (World.cell?_of_block (w := w) (ht.block b hlt (hp b o e))).trans h1
end

/-- The slice value with the address A reads the rows xss. -/
def RdSS (w : World) (A : Option Addr) (xss : List (List Int)) : Prop :=
  ∃ vals : List Value, Rd w A vals ∧ vals.length = xss.length ∧ ∀ (j : Nat) (xs : List Int), xss[j]? = some xs → ∃ (A' : Option Addr) (c' : Nat), vals[j]? = some (Value.slice A' xs.length c') ∧ Rd w A' (ints xs) ∧ xs.length ≤ 9223372036854775807
/-- The slice value owns the rows xss, each in a block of its own; all blocks lie in [lo, hi). -/
def OwnSS (w : World) (lo hi : Nat) (e : TypeId) (A : Option Addr) (n c : Nat) (xss : List (List Int)) : Prop :=
  ∃ vals : List Value, w.ownsRow lo e 1 (.slice A n c) n vals ∧ InB (.slice A n c) lo hi ∧ xss.length = n ∧
    (∀ (j : Nat) (xs : List Int), xss[j]? = some xs → ∃ (A' : Option Addr) (c' : Nat), vals[j]? = some (Value.slice A' xs.length c') ∧ w.ownsRow lo 2 1 (.slice A' xs.length c') xs.length (ints xs) ∧ InB (.slice A' xs.length c') lo hi) ∧
    (∀ (i j : Nat) (u v : Value), i ≠ j → vals[i]? = some u → vals[j]? = some v → ∀ k, u.ownBlock = some k → v.ownBlock ≠ some k)
section
variable {w w' : World} {A : Option Addr} {xss : List (List Int)} {base e n c lo hi : Nat}
theorem own_len {vs : List Value} (h : w.ownsRow base e 1 (.slice A n c) n vs) : n ≤ 9223372036854775807 := by
  rcases h.2 with ⟨_, h0⟩ | ⟨g, cap, cur, _, _, _, h1, h2, _⟩
  · omega
  · unfold maxLen at h2; omega
theorem RdSS.nil : RdSS w A [] := ⟨[], Rd.nil, rfl, fun j xs h => by simp at h⟩
theorem RdSS.keep (h : RdSS w A xss) (hb : Below w.heap.size w w') : RdSS w' A xss := by
  obtain ⟨vals, h1, h2, h3⟩ := h
  exact ⟨vals, h1.keep hb, h2, fun j xs hj => by obtain ⟨A', c', h4, h5, h6⟩ := h3 j xs hj; exact ⟨A', c', h4, h5.keep hb, h6⟩⟩
theorem RdSS.row (h : RdSS w A xss) {k : Nat} (hk : k < xss.length) :
    ∃ (b o : Nat) (A' : Option Addr) (c' : Nat) (xs : List Int), A = some ⟨b, o, none⟩ ∧ xss[k]? = some xs ∧ w.cell? ⟨b, o + k, none⟩ = some (.slice A' xs.length c') ∧ Rd w A' (ints xs) ∧ xs.length ≤ 9223372036854775807 := by
  obtain ⟨vals, h1, h2, h3⟩ := h
  obtain ⟨A', c', h4, h5, h6⟩ := h3 k xss[k] (List.getElem?_eq_getElem hk)
  obtain ⟨b, o, e, hc⟩ := h1 (by omega)
  exact ⟨b, o, A', c', xss[k], e, List.getElem?_eq_getElem hk, hc k _ h4, h5, h6⟩
theorem ownSS_rd (h : OwnSS w lo hi e A n c xss) : RdSS w A xss := by
  obtain ⟨vals, h1, _, h2, h3, _⟩ := h
  exact ⟨vals, own_rd h1, by have := h1.1; omega, fun j xs hj => by obtain ⟨A', c', h4, h5, _⟩ := h3 j xs hj; exact ⟨A', c', h4, own_rd h5, own_len h5⟩⟩
theorem ownSS_below {B : Nat} (h : OwnSS w lo hi e A n c xss) (hb : Below B w w') (hB : w.heap.size ≤ B) : OwnSS w' lo hi e A n c xss := by
  obtain ⟨vals, h1, hp, h2, h3, h4⟩ := h
  exact ⟨vals, own_below h1 hb hB, hp, h2, fun j xs hj => by obtain ⟨A', c', h5, h6, h7⟩ := h3 j xs hj; exact ⟨A', c', h5, own_below h6 hb hB, h7⟩, h4⟩
theorem ownSS_turns {lo' hi' : Nat} (h : OwnSS w lo hi e A n c xss) (ht : Turns lo' hi' w w') (hd : hi ≤ lo' ∨ hi' ≤ lo) : OwnSS w' lo hi e A n c xss := by
  obtain ⟨vals, h1, hp, h2, h3, h4⟩ := h
  exact ⟨vals, ht.own h1 hp hd, hp, h2, fun j xs hj => by obtain ⟨A', c', h5, h6, h7⟩ := h3 j xs hj; exact ⟨A', c', h5, ht.own h6 h7 hd, h7⟩, h4⟩
theorem ownSS_nil (w : World) (lo hi e : Nat) : OwnSS w lo hi e none 0 0 [] := ⟨[], World.ownsRow_nil _ _ _ _, fun k hk => by simp [Value.ownBlock] at hk, rfl, fun j xs h => by simp at h, fun i j u v _ h => by simp at h⟩
theorem inB_wide {v : Value} {lo' hi' : Nat} (h : InB v lo hi) (h1 : lo' ≤ lo) (h2 : hi ≤ hi') : InB v lo' hi' := fun k hk => by have := h k hk; omega
theorem ownSS_wide {lo' hi' : Nat} (h : OwnSS w lo hi e A n c xss) (h1 : lo' ≤ lo) (h2 : hi ≤ hi') : OwnSS w lo' hi' e A n c xss := by
  obtain ⟨vals, a1, hp, a2, h3, h4⟩ := h
  exact ⟨vals, own_base a1 h1, inB_wide hp h1 h2, a2, fun j xs hj => by obtain ⟨A', c', h5, h6, h7⟩ := h3 j xs hj; exact ⟨A', c', h5, own_base h6 h1, inB_wide h7 h1 h2⟩, h4⟩
end
end Go.Proofs.Ytmgoaabeopnopaa
/- What the row's frame hands to the walk: a slice of int64 that came in, as a list. -/
namespace Go.Proofs.Ytmgoaabeopnopaa
open Go.RowKit

def IsRow (k : IntKind) (w : World) (a : Option Addr) (len cap : Nat) (zs : List Int) : Prop :=
  (a = none ∧ len = 0 ∧ cap = 0 ∧ zs = []) ∨
  ∃ x, a = some x ∧ len ≤ cap ∧ cap ≤ maxLen ∧ zs.length = cap ∧ (∀ i, i < zs.length → w.cell? (x.add i) = some (.int k (zs.getD i 0))) ∧ ∀ n ∈ zs, (Lit.int k n).wf = true

theorem isRow_rd {w : World} {a : Option Addr} {len cap : Nat} {zs : List Int} (h : IsRow .i64 w a len cap zs) :
    ∃ xs : List Int, xs.length = len ∧ Rd w a (ints xs) ∧ (∀ n ∈ xs, (Lit.int .i64 n).wf = true) ∧ len ≤ maxLen := by
  rcases h with ⟨rfl, rfl, rfl, rfl⟩ | ⟨x, rfl, hl, hm, hz, hc, hw⟩
  · exact ⟨[], rfl, Rd.nil, by simp, Nat.zero_le _⟩
  · refine ⟨zs.take len, by simp; omega, fun hp => ?_, fun n hn => hw n (List.mem_of_mem_take hn), by omega⟩
    obtain ⟨b, o, s⟩ := x
    have h0 := hc 0 (by simp at hp; omega)
    have hs : s = none := by simpa [Addr.add] using World.cell?_spot h0
    subst hs
    refine ⟨b, o, rfl, fun k u hu => ?_⟩
    have hk : k < len ∧ k < zs.length := by
      have := (List.getElem?_eq_some_iff.1 hu).1
      simp at this
      omega
    have hck := hc k hk.2
    rw [Addr.add_lit] at hck
    rw [hck]
    have e : (ints (zs.take len))[k]? = some (.int .i64 (zs.getD k 0)) := by
      simp [hk.1, hk.2]
    rw [e] at hu
    exact hu
/-- A slice of slices of int64 that came in, as a list of lists. -/
def IsRows (w : World) (a : Option Addr) (len : Nat) (zss : List (List Int)) : Prop := zss.length = len ∧ RdSS w a zss ∧ len ≤ maxLen
theorem isRows_nil (w : World) : IsRows w none 0 [] := ⟨rfl, RdSS.nil, Nat.zero_le _⟩
theorem isRows_of {w : World} {a : Addr} {len cap base : Nat} {A : Nat → Option Addr} {L C : Nat → Nat} {Z : Nat → List Int} (hl : len ≤ cap) (hm : cap ≤ maxLen)
    (h : ∀ r, r < cap → w.cell? (a.add r) = some (.slice (A r) (L r) (C r)) ∧ L r ≤ C r ∧ C r ≤ maxLen ∧ (Z r).length = C r ∧ (∀ n ∈ Z r, (Lit.int .i64 n).wf = true) ∧ (A r = none → C r = 0) ∧
      ∀ a', A r = some a' → base ≤ a'.block ∧ ∀ c, c < C r → w.cell? (a'.add c) = some (.int .i64 ((Z r).getD c 0))) :
    IsRows w (some a) len ((List.range len).map fun r => (Z r).take (L r)) := by
  refine ⟨by simp, ⟨(List.range len).map fun r => .slice (A r) (L r) (C r), fun hp => ?_, by simp, fun j xs hj => ?_⟩, by omega⟩
  · have hlen : 0 < len := by simpa using hp
    obtain ⟨b, o, s⟩ := a
    have h0 := (h 0 (by omega)).1
    have hs : s = none := by simpa [Addr.add] using World.cell?_spot h0
    subst hs
    refine ⟨b, o, rfl, fun k u hu => ?_⟩
    have hk : k < len := by
      have := (List.getElem?_eq_some_iff.1 hu).1
      simpa using this
    have hck := (h k (by omega)).1
    rw [Addr.add_lit] at hck
    rw [hck]
    simp [hk] at hu
    rw [hu]
  · have hk : j < len := by
      have := (List.getElem?_eq_some_iff.1 hj).1
      simpa using this
    obtain ⟨e1, e2, e3, e4, e5, e6, e7⟩ := h j (by omega)
    simp [hk] at hj
    subst hj
    have hlen : ((Z j).take (L j)).length = L j := by simp; omega
    unfold maxLen at e3
    refine ⟨A j, C j, by rw [hlen]; simp [hk], ?_, by rw [hlen]; omega⟩
    cases hA : A j with
    | none =>
      have := e6 hA
      have h0 : (Z j).take (L j) = [] := List.eq_nil_of_length_eq_zero (by omega)
      rw [h0]
      exact Rd.nil
    | some a' =>
      have hc := (e7 a' hA).2
      have hrow : IsRow .i64 w (some a') (L j) (C j) (Z j) := .inr ⟨a', rfl, e2, by unfold maxLen; omega, e4, fun i hi => hc i (by omega), e5⟩
      obtain ⟨xs, h1, h2, _⟩ := isRow_rd hrow
      have h3 : xs = (Z j).take (L j) := by
        apply List.ext_getElem?
        intro i
        by_cases hi : i < L j
        · obtain ⟨b, o, x, hb, hx, hcx⟩ := h2.int (k := i) (by omega)
          injection hb with hb
          subst hb
          have := hc i (by omega)
          rw [Addr.add_lit] at this
          rw [this] at hcx
          rw [hx, List.getElem?_take, if_pos hi, List.getElem?_eq_getElem (by omega)]
          simp [List.getD, show i < (Z j).length by omega] at hcx
          rw [hcx]
        · rw [List.getElem?_eq_none (by omega), List.getElem?_eq_none (by simp; omega)]
      rw [← h3]
      exact h2
end Go.Proofs.Ytmgoaabeopnopaa
namespace Go.Proofs.Ytmgoaabeopnopaa
open Go.RowKit

theorem decide_eq_take {xs ys : List Int} {n k : Nat} (hx : xs.length = n) (hy : ys.length = n) (hk : n ≤ k) (h : xs.take k = ys.take k) : xs = ys := by
  rwa [List.take_of_length_le (by omega), List.take_of_length_le (by omega)] at h
theorem take_succ_of {xs : List Int} {k : Nat} {x : Int} (hx : xs[k]? = some x) : xs.take (k + 1) = xs.take k ++ [x] := by
  rw [List.take_add_one, hx]; rfl

set_option maxHeartbeats 400000 in
theorem eq_any {A B : Option Addr} {c d : Nat} {xs ys : List Int} {n m : Nat} (w : World) (hx : xs.length = n) (hy : ys.length = m) (ha : Rd w A (ints xs)) (hb : Rd w B (ints ys)) (hn : n ≤ 9223372036854775807) :
    Calls Try.prog 29 #[.slice A n c, .slice B m d] w fun e w' => e = .returned (.bool (decide (xs = ys))) ∧ ∃ j, w' = w.drewN j := by
  by_cases hl : n = m
  · subst hl
    have HX := Lib.hid hx
    have HY := Lib.hid hy
    clear hx hy
    go_enter Try.func29, Try.ntmps29
    go_wp2
    go_loopw [5] (fun i wr => ∃ k : Nat, k ≤ n ∧ i = .int .i64 k ∧ xs.take k = ys.take k ∧ ∃ j, wr = w.drewN j) (fun i _ => n - (intOf i).toNat)
    case atStart => exact ⟨0, Nat.zero_le _, rfl, rfl, 0, rfl⟩
    case round =>
      obtain ⟨k, hk, rfl, heq, j, rfl⟩ := hrel
      have HE := Lib.hid heq
      clear heq
      by_cases hlt : k < n
      · obtain ⟨b, o, x, rfl, hgx, hcx⟩ := ha.int (k := k) (by rw [HX.out]; exact hlt)
        obtain ⟨b', o', y, rfl, hgy, hcy⟩ := hb.int (k := k) (by rw [HY.out]; exact hlt)
        have HGX := Lib.hid hgx
        have HGY := Lib.hid hgy
        clear hgx hgy ha hb
        go_wp2
        go_quiet (fail)
        go_wp2
        · have hne : (x != y) = true := by assumption
          go_ret
          refine ⟨ret_bool ?_, j + nq, World.drewN_drewN _ _ _⟩
          have hxy : x ≠ y := by simpa using hne
          refine (decide_eq_false ?_).symm
          intro h
          have h1 := HGX.out
          rw [h, HGY.out] at h1
          exact hxy (by simpa using h1.symm)
        · have heq : x = y := by simpa using (by assumption : (x != y) = false)
          go_roundw
          case rel => exact ⟨k + 1, by omega, by go_num, by rw [take_succ_of HGX.out, take_succ_of HGY.out, HE.out, heq], j + nq, by simp⟩
          case measure => simp [intOf]; omega
      · go_wp2
        go_ret
        exact ⟨ret_bool (decide_eq_true (decide_eq_take HX.out HY.out (by omega) HE.out)).symm, _, rfl⟩
  · have hne : ((n : Int) != (m : Int)) = true := by rw [bne_iff_ne]; omega
    have hd : decide (xs = ys) = false := decide_eq_false (fun h => hl (by rw [← hx, ← hy, h]))
    go_enter Try.func29, Try.ntmps29
    go_wp2
    go_ret
    exact ⟨ret_bool hd.symm, 0, rfl⟩
theorem eq_same {A B : Option Addr} {c d : Nat} {xs : List Int} {n m : Nat} (w : World) (hx : xs.length = n) (hy : xs.length = m) (ha : Rd w A (ints xs)) (hb : Rd w B (ints xs)) (hn : n ≤ 9223372036854775807) :
    Calls Try.prog 29 #[.slice A n c, .slice B m d] w fun e w' => e = .returned (.bool true) ∧ Below w.heap.size w w' :=
  (eq_any w hx hy ha hb hn).mono fun _ _ ⟨he, j, hj⟩ => ⟨by rw [he, decide_eq_true rfl], by rw [hj]; exact below_drewN (Below.refl _ _) j⟩
end Go.Proofs.Ytmgoaabeopnopaa
namespace Go.Proofs.Ytmgoaabeopnopaa
open Go.RowKit

theorem Try.info2 : (Try.prog.info? 2).map (fun i => (i.zero, i.size, i.bytes)) = some (some (.int .i64 0), 1, 8) := by kernel_rfl
theorem Try.infoB : (Try.prog.info? 4).map (fun i => (i.zero, i.size, i.bytes)) = some (some (.bool false), 1, 1) := by kernel_rfl

set_option maxHeartbeats 400000 in
theorem to_any {A : Option Addr} {c : Nat} {xs : List Int} {n : Nat} (w : World) (hx : xs.length = n) (ha : Rd w A (ints xs)) (hn : n ≤ 1048576) :
    Calls Try.prog 35 #[.slice A n c] w fun e w' => ∃ A' c', e = .returned (.slice A' n c') ∧ w'.ownsRow w.heap.size 2 1 (.slice A' n c') n (ints xs) ∧ Below w.heap.size w w' := by
  have HX := Lib.hid hx
  have HA := Lib.hid ha
  clear hx ha
  have hmk := run_make_row' (P := Try.prog) 36 2 (.int .i64 0) 8 Try.underlying36 Try.info2 rfl .i64 .i64 n (by omega) (by omega)
  go_enter Try.func35, Try.ntmps35
  go_wp2
  clear hmk
  go_loopw [4] (fun i wr => ∃ k : Nat, k ≤ n ∧ i = .int .i64 k ∧ wr.ownsRow w.heap.size 2 1 (.slice (some ⟨w.heap.size, 0, none⟩) n n) n (ints (xs.take k ++ List.replicate (n - k) 0)) ∧ Below w.heap.size w wr) (fun i _ => n - (intOf i).toNat)
  case atStart => exact ⟨0, Nat.zero_le _, rfl, by simpa using make_own w (.int .i64 0) n 2 (by unfold maxLen; omega), (Below.refl _ _).alloc (Nat.le_refl _) _⟩
  case round =>
    obtain ⟨k, hk, rfl, own, bel⟩ := hrel
    have OWN := Lib.hid own
    have BEL := Lib.hid bel
    clear own bel
    by_cases hlt : k < n
    · obtain ⟨b, o, x, rfl, hgx, hcx⟩ := (HA.out.keep BEL.out).int (k := k) (by rw [HX.out]; exact hlt)
      have hcell := own_cell OWN.out (fill_at hlt HX.out)
      have hfrz := OWN.out.frozenAt k
      have HG := Lib.hid hgx
      clear hgx
      go_wp2
      go_roundw
      case rel => exact ⟨k + 1, by omega, by go_num, by have h := (OWN.out.stored k (.int .i64 x)).1; rwa [ints_set, fill_step HX.out HG.out] at h, BEL.out.setCell (by simp) _⟩
      case measure => simp [intOf]; omega
    · go_wp2
      go_ret
      obtain rfl : k = n := by omega
      refine ⟨_, _, rfl, ?_, BEL.out⟩
      have h := OWN.out
      rwa [Nat.sub_self, List.replicate_zero, List.append_nil, List.take_of_length_le (by rw [HX.out]; exact Nat.le_refl _)] at h
end Go.Proofs.Ytmgoaabeopnopaa
namespace Go.Proofs.Ytmgoaabeopnopaa
open Go.RowKit

set_option maxHeartbeats 400000 in
theorem mark_any {A : Option Addr} {c : Nat} {xs : List Int} {n base : Nat} (k0 : Int) (w : World) (hown : w.ownsRow base 2 1 (.slice A n c) n (ints xs)) (hn : n ≤ 1048576) (h0 : 0 ≤ k0) (h1 : k0 ≤ 1000000000000000000) :
    Calls Try.prog 30 #[.slice A n c, .int .i64 k0] w fun e w' => e = .returned (.int .i64 (k0 + n)) ∧ w'.ownsRow base 2 1 (.slice A n c) n (ints (marks k0 n)) ∧ w.grownBy w' (Value.slice A n c).ownBlock := by
  have hx : xs.length = n := by simpa using hown.1
  have HX := Lib.hid hx
  have HO := Lib.hid hown
  clear hx hown
  go_enter Try.func30, Try.ntmps30
  go_wp2
  go_loopw [1, 5] (fun q i wr => ∃ k : Nat, k ≤ n ∧ i = .int .i64 k ∧ q = .int .i64 (k0 + k) ∧ wr.ownsRow base 2 1 (.slice A n c) n (ints (marks k0 k ++ xs.drop k)) ∧ w.grownBy wr (Value.slice A n c).ownBlock) (fun _ i _ => n - (intOf i).toNat)
  case atStart => exact ⟨0, Nat.zero_le _, rfl, by simp, by simpa [marks] using HO.out, World.grownBy.refl _ _⟩
  case round =>
    obtain ⟨k, hk, rfl, rfl, own, gr⟩ := hrel
    have OWN := Lib.hid own
    have GR := Lib.hid gr
    clear own gr
    by_cases hlt : k < n
    · obtain ⟨g, rfl⟩ := own_shape OWN.out (by omega)
      obtain ⟨u, hu⟩ := mark_cell (k := k0) HX.out hlt
      have hcell := own_cell OWN.out hu
      have hfrz := OWN.out.frozenAt k
      clear hu
      go_wp2
      go_roundw
      case rel =>
        have h := OWN.out.stored k (.int .i64 (k0 + k))
        refine ⟨k + 1, by omega, by go_num, by go_num, by have h1 := h.1; rwa [ints_set, mark_step HX.out hlt] at h1, ?_⟩
        exact ⟨h.2.os.trans GR.out.os, h.2.tape.trans GR.out.tape, h.2.output.trans GR.out.output, Nat.le_trans GR.out.size h.2.size, fun j hj hne => (h.2.block j (Nat.lt_of_lt_of_le hj GR.out.size) hne).trans (GR.out.block j hj hne)⟩
      case measure => simp [intOf]; omega
    · go_wp2
      go_ret
      obtain rfl : k = n := by omega
      refine ⟨rfl, ?_, GR.out⟩
      have h := OWN.out
      rwa [List.drop_of_length_le (by rw [HX.out]; exact Nat.le_refl _), List.append_nil] at h

set_option maxHeartbeats 400000 in
theorem held_any {A : Option Addr} {c : Nat} {n : Nat} (k0 : Int) (w : World) (ha : Rd w A (ints (marks k0 n))) (hn : n ≤ 1048576) (h0 : 0 ≤ k0) (h1 : k0 ≤ 1000000000000000000) :
    Calls Try.prog 31 #[.slice A n c, .int .i64 k0] w fun e w' => e = .returned (.int .i64 (k0 + n)) ∧ w = w' := by
  have HA := Lib.hid ha
  clear ha
  go_enter Try.func31, Try.ntmps31
  go_wp2
  go_loop [1, 5] (fun q i => ∃ k : Nat, k ≤ n ∧ i = .int .i64 k ∧ q = .int .i64 (k0 + k)) (fun _ i => n - (intOf i).toNat)
  case atStart => exact ⟨0, Nat.zero_le _, rfl, by simp⟩
  case round =>
    obtain ⟨k, hk, rfl, rfl⟩ := hrel
    by_cases hlt : k < n
    · obtain ⟨b, o, x, rfl, hgx, hcx⟩ := HA.out.int (k := k) (by rw [marks_length]; exact hlt)
      have hxe : x = k0 + k := by rw [marks_at hlt] at hgx; simpa using hgx.symm
      subst hxe
      clear hgx
      go_wp2
      go_round
      case rel => exact ⟨k + 1, by omega, by go_num, by go_num⟩
      case measure => simp [intOf]; omega
    · go_wp2
      go_ret
      obtain rfl : k = n := by omega
      exact ⟨rfl, rfl⟩
end Go.Proofs.Ytmgoaabeopnopaa
namespace Go.Proofs.Ytmgoaabeopnopaa
open Go.RowKit

theorem in_yes (x a b : Int) (w : World) (h1 : a ≤ x) (h2 : x ≤ b) : Calls Try.prog 108 #[.int .i64 x, .int .i64 a, .int .i64 b] w fun e w' => e = .returned (.bool true) ∧ w = w' := by
  go_enter Try.func108, Try.ntmps108
  go_wp2
  go_ret
  exact ⟨rfl, rfl⟩
theorem in_no (x a b : Int) (w : World) (h : x < a ∨ b < x) : Calls Try.prog 108 #[.int .i64 x, .int .i64 a, .int .i64 b] w fun e w' => e = .returned (.bool false) ∧ w = w' := by
  by_cases h1 : x < a
  · clear h
    go_enter Try.func108, Try.ntmps108
    go_wp2
    go_ret
    exact ⟨rfl, rfl⟩
  · have h2 : b < x := by omega
    clear h
    go_enter Try.func108, Try.ntmps108
    go_wp2
    go_ret
    exact ⟨ret_bool (decide_eq_false (by omega)), rfl⟩

set_option maxHeartbeats 800000 in
theorem perm_any {A : Option Addr} {c : Nat} {xs : List Int} {n : Nat} (w : World) (hx : xs.length = n) (ha : Rd w A (ints xs)) (hn : n ≤ 1048576) :
    Calls Try.prog 141 #[.slice A n c] w fun e w' => e = .returned (.bool (okP xs)) ∧ Below w.heap.size w w' := by
  by_cases h4 : 400 < n
  · have ho := not_ok_long hx h4
    have HO := Lib.hid ho
    clear ho hx ha
    go_enter Try.func141, Try.ntmps141
    go_wp2
    go_ret
    exact ⟨ret_bool HO.out.symm, Below.refl _ _⟩
  · have HX := Lib.hid hx
    have HA := Lib.hid ha
    clear hx ha
    have hmk := run_make_row' (P := Try.prog) 150 4 (.bool false) 1 Try.underlying150 Try.infoB rfl .i64 .i64 n (by omega) (by omega)
    go_enter Try.func141, Try.ntmps141
    go_wp2
    clear hmk
    go_loopw [4] (fun i wr => ∃ k : Nat, k ≤ n ∧ i = .int .i64 k ∧ wr.ownsRow w.heap.size 4 1 (.slice (some ⟨w.heap.size, 0, none⟩) n n) n (seenL n (xs.take k)) ∧ Below w.heap.size w wr ∧ goodTo xs n k) (fun i _ => n - (intOf i).toNat)
    case atStart => exact ⟨0, Nat.zero_le _, rfl, by simpa [seenL_nil] using make_own w (.bool false) n 4 (by unfold maxLen; omega), (Below.refl _ _).alloc (Nat.le_refl _) _, goodTo_zero _ _⟩
    case round =>
      obtain ⟨k, hk, rfl, own, bel, good⟩ := hrel
      have OWN := Lib.hid own
      have BEL := Lib.hid bel
      have GOOD := Lib.hid good
      clear own bel good
      by_cases hlt : k < n
      · obtain ⟨b, o, x, rfl, hgx, hcx⟩ := (HA.out.keep BEL.out).int (k := k) (by rw [HX.out]; exact hlt)
        have HG := Lib.hid hgx
        clear hgx
        by_cases hr : x < 0 ∨ (n : Int) ≤ x
        · have ho := Lib.hid (not_ok_range HX.out HG.out hr)
          go_wp2_with ((with_reducible refine (in_no _ _ _ _ (by omega)).mono ?_); rintro e w' ⟨rfl, rfl⟩)
          go_ret
          exact ⟨ret_bool ho.out.symm, BEL.out⟩
        · obtain ⟨m, rfl⟩ := Int.eq_ofNat_of_zero_le (show 0 ≤ x by omega)
          have hm : m < n := by omega
          clear hr
          have hcs := own_cell OWN.out (seenL_at hm)
          have hfrz := OWN.out.frozenAt m
          by_cases hs : (m : Int) ∈ xs.take k
          · have ho := Lib.hid (not_ok_seen HG.out hs)
            have hd : decide ((m : Int) ∈ xs.take k) = true := decide_eq_true hs
            rw [hd] at hcs
            clear hs hd
            go_wp2_with ((with_reducible refine (in_yes _ _ _ _ (by omega) (by omega)).mono ?_); rintro e w' ⟨rfl, rfl⟩)
            go_ret
            exact ⟨ret_bool ho.out.symm, BEL.out⟩
          · have hd : decide ((m : Int) ∈ xs.take k) = false := decide_eq_false hs
            rw [hd] at hcs
            have G' := Lib.hid (goodTo_succ GOOD.out HG.out hm hs)
            clear hs hd
            go_wp2_with ((with_reducible refine (in_yes _ _ _ _ (by omega) (by omega)).mono ?_); rintro e w' ⟨rfl, rfl⟩)
            go_roundw
            case rel => exact ⟨k + 1, by omega, by go_num, by have h := (OWN.out.stored m (.bool true)).1; rwa [seenL_set, ← take_succ_of HG.out] at h, BEL.out.setCell (by simp) _, G'.out⟩
            case measure => simp [intOf]; omega
      · go_wp2
        go_ret
        exact ⟨ret_bool (goodTo_all HX.out (by omega) (by omega) GOOD.out).symm, BEL.out⟩
end Go.Proofs.Ytmgoaabeopnopaa
namespace Go.Proofs.Ytmgoaabeopnopaa
open Go.RowKit

set_option maxHeartbeats 800000 in
theorem valid_any {A : Option Addr} {c : Nat} {xs : List Int} {n : Nat} (w : World) (hx : xs.length = n) (ha : Rd w A (ints xs)) (hn : n ≤ 1048576) :
    Calls Try.prog 189 #[.slice A n c] w fun e w' => e = .returned (.bool (okP xs)) ∧ Below w.heap.size w w' := by
  by_cases h4 : 400 < n
  · have ho := not_ok_long hx h4
    have HO := Lib.hid ho
    clear ho hx ha
    go_enter Try.func189, Try.ntmps189
    go_wp2
    go_ret
    exact ⟨ret_bool HO.out.symm, Below.refl _ _⟩
  · have HX := Lib.hid hx
    have HA := Lib.hid ha
    clear hx ha
    have hmk := run_make_row' (P := Try.prog) 150 4 (.bool false) 1 Try.underlying150 Try.infoB rfl .i64 .i64 n (by omega) (by omega)
    go_enter Try.func189, Try.ntmps189
    go_wp2
    clear hmk
    go_loopw [14] (fun i wr => ∃ k : Nat, k ≤ n ∧ i = .int .i64 k ∧ wr.ownsRow w.heap.size 4 1 (.slice (some ⟨w.heap.size, 0, none⟩) n n) n (seenL n (xs.take k)) ∧ Below w.heap.size w wr ∧ goodTo xs n k) (fun i _ => n - (intOf i).toNat)
    case atStart => exact ⟨0, Nat.zero_le _, rfl, by simpa [seenL_nil] using make_own w (.bool false) n 4 (by unfold maxLen; omega), (Below.refl _ _).alloc (Nat.le_refl _) _, goodTo_zero _ _⟩
    case round =>
      obtain ⟨k, hk, rfl, own, bel, good⟩ := hrel
      have OWN := Lib.hid own
      have BEL := Lib.hid bel
      have GOOD := Lib.hid good
      clear own bel good
      by_cases hlt : k < n
      · obtain ⟨b, o, x, rfl, hgx, hcx⟩ := (HA.out.keep BEL.out).int (k := k) (by rw [HX.out]; exact hlt)
        have HG := Lib.hid hgx
        clear hgx
        by_cases hr : x < 0
        · have ho := Lib.hid (not_ok_range HX.out HG.out (.inl hr))
          go_wp2
          go_ret
          exact ⟨ret_bool ho.out.symm, BEL.out⟩
        by_cases hr2 : (n : Int) ≤ x
        · have ho := Lib.hid (not_ok_range HX.out HG.out (.inr hr2))
          go_wp2
          go_ret
          exact ⟨ret_bool ho.out.symm, BEL.out⟩
        obtain ⟨m, rfl⟩ := Int.eq_ofNat_of_zero_le (show 0 ≤ x by omega)
        have hm : m < n := by omega
        clear hr hr2
        have hcs := own_cell OWN.out (seenL_at hm)
        have hfrz := OWN.out.frozenAt m
        by_cases hs : (m : Int) ∈ xs.take k
        · have ho := Lib.hid (not_ok_seen HG.out hs)
          have hd : decide ((m : Int) ∈ xs.take k) = true := decide_eq_true hs
          rw [hd] at hcs
          clear hs hd
          go_wp2
          go_ret
          exact ⟨ret_bool ho.out.symm, BEL.out⟩
        · have hd : decide ((m : Int) ∈ xs.take k) = false := decide_eq_false hs
          rw [hd] at hcs
          have G' := Lib.hid (goodTo_succ GOOD.out HG.out hm hs)
          clear hs hd
          go_wp2
          go_roundw
          case rel => exact ⟨k + 1, by omega, by go_num, by have h := (OWN.out.stored m (.bool true)).1; rwa [seenL_set, ← take_succ_of HG.out] at h, BEL.out.setCell (by simp) _, G'.out⟩
          case measure => simp [intOf]; omega
      · go_wp2
        go_ret
        exact ⟨ret_bool (goodTo_all HX.out (by omega) (by omega) GOOD.out).symm, BEL.out⟩

theorem sperm_any {A : Option Addr} {c : Nat} {xs : List Int} {n : Nat} (w : World) (hx : xs.length = n) (ha : Rd w A (ints xs)) (hn : n ≤ 1048576) :
    Calls Try.prog 139 #[.slice A n c] w fun e w' => e = .returned (.bool (okP xs)) ∧ Below w.heap.size w w' := by
  have HX := Lib.hid hx
  have HA := Lib.hid ha
  clear hx ha
  go_enter Try.func139, Try.ntmps139
  go_wp2_with fail
  refine (perm_any w HX.out HA.out hn).mono ?_
  rintro e w' ⟨rfl, bel⟩
  go_wp2
  go_ret
  exact ⟨rfl, bel⟩
theorem iperm_any {A : Option Addr} {c : Nat} {xs : List Int} {n : Nat} (w : World) (hx : xs.length = n) (ha : Rd w A (ints xs)) (hn : n ≤ 1048576) :
    Calls Try.prog 181 #[.slice A n c] w fun e w' => e = .returned (.bool (okP xs)) ∧ Below w.heap.size w w' := by
  have HX := Lib.hid hx
  have HA := Lib.hid ha
  clear hx ha
  go_enter Try.func181, Try.ntmps181
  go_wp2_with fail
  refine (valid_any w HX.out HA.out hn).mono ?_
  rintro e w' ⟨rfl, bel⟩
  go_wp2
  go_ret
  exact ⟨rfl, bel⟩
end Go.Proofs.Ytmgoaabeopnopaa
namespace Go.Proofs.Ytmgoaabeopnopaa
open Go.RowKit

theorem Try.infoS : (Try.prog.info? 36).map (fun i => (i.zero, i.size, i.bytes)) = some (some (.slice none 0 0), 1, 24) := by kernel_rfl

/-- What the size test hands back: below 0, or all lengths are at most what it began with. -/
def SzOk (left : Int) (xss : List (List Int)) (w : World) (e : Ending) (w' : World) : Prop :=
  ∃ r : Int, e = .returned (.int .i64 r) ∧ -1 ≤ r ∧ r ≤ 1048576 ∧ (0 ≤ r → (xss.length : Int) ≤ left ∧ ∀ xs ∈ xss, (xs.length : Int) ≤ left) ∧ w = w'
def Sz1 (left : Int) (n : Nat) (w : World) (e : Ending) (w' : World) : Prop := ∃ r : Int, e = .returned (.int .i64 r) ∧ -1 ≤ r ∧ r ≤ left ∧ (0 ≤ r → (n : Int) ≤ left) ∧ w = w'

theorem sz1_any {A : Option Addr} {c n : Nat} (left : Int) (w : World) (h0 : 0 ≤ left) (h1 : left ≤ 1048576) (hn : n ≤ 9223372036854775807) :
    Calls Try.prog 82 #[.slice A n c, .int .i64 left] w (Sz1 left n w) := by
  by_cases hl : left - n < 0
  · go_enter Try.func82, Try.ntmps82
    go_wp2
    go_ret
    exact ⟨-1, rfl, by omega, by omega, by omega, rfl⟩
  · go_enter Try.func82, Try.ntmps82
    go_wp2
    go_ret
    exact ⟨left - n, rfl, by omega, by omega, by omega, rfl⟩

set_option maxHeartbeats 800000 in
theorem sz_any {A : Option Addr} {c n : Nat} {xss : List (List Int)} (w : World) (hx : xss.length = n) (ha : RdSS w A xss) (hn : n ≤ 9223372036854775807) :
    Calls Try.prog 17 #[.slice A n c, .int .i64 1048576] w (SzOk 1048576 xss w) := by
  have HX := Lib.hid hx
  have HA := Lib.hid ha
  clear hx ha
  by_cases hl : (1048576 : Int) - n < 0
  · go_enter Try.func17, Try.ntmps17
    go_wp2
    go_ret
    exact ⟨-1, rfl, by omega, by omega, by omega, rfl⟩
  go_enter Try.func17, Try.ntmps17
  go_wp2
  go_loop [1, 5] (fun q i => ∃ (k : Nat) (r : Int), k ≤ n ∧ i = .int .i64 k ∧ q = .int .i64 r ∧ 0 ≤ r ∧ r ≤ 1048576 ∧ ∀ xs ∈ xss.take k, (xs.length : Int) ≤ 1048576) (fun _ i => n - (intOf i).toNat)
  case atStart => exact ⟨0, _, Nat.zero_le _, rfl, rfl, by omega, by omega, by simp⟩
  case round =>
    obtain ⟨k, r, hk, rfl, rfl, h0, h1, hall⟩ := hrel
    have HALL := Lib.hid hall
    clear hall
    by_cases hlt : k < n
    · obtain ⟨b, o, A', c', xs, rfl, hg, hc, hr, hm⟩ := HA.out.row (k := k) (by rw [HX.out]; exact hlt)
      have HG := Lib.hid hg
      clear hg hr
      go_wp2_with fail
      refine (sz1_any r w h0 h1 hm).mono ?_
      rintro e w' ⟨r', rfl, g0, g1, g2, rfl⟩
      by_cases hneg : r' < 0
      · clear g2
        go_wp2
        go_ret
        exact ⟨-1, rfl, by omega, by omega, by omega, rfl⟩
      · have G2 := Lib.hid (g2 (by omega))
        clear g2
        go_wp2
        go_round
        case rel =>
          refine ⟨k + 1, r', by omega, by go_num, rfl, by omega, by omega, fun ys hy => ?_⟩
          rw [List.take_add_one, HG.out] at hy
          rcases List.mem_append.1 hy with h | h
          · exact HALL.out ys h
          · simp at h
            subst h
            have := G2.out
            omega
        case measure => simp [intOf]; omega
    · go_wp2
      go_ret
      refine ⟨r, rfl, by omega, by omega, fun _ => ⟨by rw [HX.out]; omega, fun xs hxs => HALL.out xs ?_⟩, rfl⟩
      rwa [List.take_of_length_le (by rw [HX.out]; omega)]
end Go.Proofs.Ytmgoaabeopnopaa
namespace Go.Proofs.Ytmgoaabeopnopaa
open Go.RowKit

/-- What holds of the copy of rows when k of them are copied. -/
def SSTo (w wr : World) (n k : Nat) (xss : List (List Int)) : Prop :=
  ∃ vals : List Value, vals.length = k ∧ wr.ownsRow w.heap.size 36 1 (.slice (some ⟨w.heap.size, 0, none⟩) n n) n (vals ++ List.replicate (n - k) (.slice none 0 0)) ∧ w.heap.size < wr.heap.size ∧
    (∀ (j : Nat) (xs : List Int), j < k → xss[j]? = some xs → ∃ (A' : Option Addr) (c' : Nat), vals[j]? = some (Value.slice A' xs.length c') ∧ wr.ownsRow w.heap.size 2 1 (.slice A' xs.length c') xs.length (ints xs) ∧ InB (.slice A' xs.length c') (w.heap.size + 1) wr.heap.size) ∧
    (∀ (i j : Nat) (u v : Value), i ≠ j → vals[i]? = some u → vals[j]? = some v → ∀ k, u.ownBlock = some k → v.ownBlock ≠ some k) ∧ Below w.heap.size w wr
theorem ssto_start (w : World) (n : Nat) (xss : List (List Int)) (hm : n ≤ maxLen) : SSTo w (w.alloc (.cells (madeCells #[.slice none 0 0] n) 36)) n 0 xss :=
  ⟨[], rfl, by simpa using make_own w (.slice none 0 0) n 36 hm, by simp, fun j xs h => absurd h (by omega), fun i j u v _ h => by simp at h, (Below.refl _ _).alloc (Nat.le_refl _) _⟩
theorem vals_set {vals : List Value} {n k : Nat} {z u : Value} (h : vals.length = k) (hk : k < n) : (vals ++ List.replicate (n - k) z).set k u = (vals ++ [u]) ++ List.replicate (n - (k + 1)) z := by
  have e : n - k = (n - (k + 1)) + 1 := by omega
  rw [List.set_append_right _ _ (by omega), e, List.replicate_succ, h, Nat.sub_self]
  simp
theorem ssto_step {w wr w1 : World} {n k c1 : Nat} {xss : List (List Int)} {xs : List Int} {A1 : Option Addr} (h : SSTo w wr n k xss) (hk : k < n) (hx : xss[k]? = some xs) (hb : Below wr.heap.size wr w1)
    (own : w1.ownsRow wr.heap.size 2 1 (.slice A1 xs.length c1) xs.length (ints xs)) :
    (w1.cell? ⟨w.heap.size, k, none⟩ = some (.slice none 0 0) ∧ w1.frozen? ⟨w.heap.size, k, none⟩ = false) ∧
    SSTo w (w1.setCell ⟨w.heap.size, k, none⟩ (.slice A1 xs.length c1)) n (k + 1) xss := by
  obtain ⟨vals, hl, ho, hsz, hrows, hdis, bel⟩ := h
  have ho1 := own_below ho hb (Nat.le_refl _)
  have hst := ho1.stored k (.slice A1 xs.length c1)
  have ht : Turns w.heap.size (w.heap.size + 1) w1 (w1.setCell ⟨w.heap.size, k, none⟩ (.slice A1 xs.length c1)) :=
    Turns.of_grown (v := .slice (some ⟨w.heap.size, 0, none⟩) n n) hst.2 (fun g hg => by simp [Value.ownBlock] at hg; omega)
  have hsz1 := hb.size
  have hin : InB (.slice A1 xs.length c1) wr.heap.size w1.heap.size := own_in own
  refine ⟨⟨own_cell (u := .slice none 0 0) ho1 (by subst hl; rw [List.getElem?_append_right (Nat.le_refl _), Nat.sub_self, List.getElem?_replicate, if_pos (by omega)]), ho1.frozenAt k⟩,
    vals ++ [.slice A1 xs.length c1], by simp [hl], by have := hst.1; rwa [vals_set hl hk] at this, by simp; omega, ?_, ?_, (bel.trans (hb.mono (by omega))).setCell (by simp) _⟩
  · intro j ys hj hy
    by_cases e : j = k
    · subst e
      rw [hx] at hy
      injection hy with hy
      subst hy
      exact ⟨A1, c1, by simp [hl], own_base (ht.own own hin (by omega)) (by omega), inB_wide hin (by omega) (by simp)⟩
    · obtain ⟨A', c', h1, h2, h3⟩ := hrows j ys (by omega) hy
      have h2' := own_below h2 hb (Nat.le_refl _)
      exact ⟨A', c', by rw [List.getElem?_append_left (by omega)]; exact h1, ht.own h2' (inB_wide h3 (Nat.le_refl _) hsz1) (by omega), inB_wide h3 (Nat.le_refl _) (by simp; omega)⟩
  · have old : ∀ (i : Nat) (u : Value), i < k → vals[i]? = some u → ∀ g, u.ownBlock = some g → g < wr.heap.size := by
      intro i u hi hu g hg
      have hlen : i < xss.length := by
        have := (List.getElem?_eq_some_iff.1 hx).1
        omega
      obtain ⟨A', c', h1, _, h3⟩ := hrows i xss[i] hi (List.getElem?_eq_getElem hlen)
      rw [hu] at h1
      injection h1 with h1
      subst h1
      exact (h3 g hg).2
    intro i j u v hij hu hv g hg
    by_cases hi : i < k
    · rw [List.getElem?_append_left (by omega)] at hu
      by_cases hj : j < k
      · rw [List.getElem?_append_left (by omega)] at hv
        exact hdis i j u v hij hu hv g hg
      · have hj' : j = k := by
          have := (List.getElem?_eq_some_iff.1 hv).1
          simp at this; omega
        subst hj'
        simp [← hl] at hv
        subst hv
        intro h2
        have h3 := hin g h2
        have h4 := old i u hi hu g hg
        omega
    · have hi' : i = k := by
        have := (List.getElem?_eq_some_iff.1 hu).1
        simp at this; omega
      subst hi'
      simp [← hl] at hu
      subst hu
      have hj : j < i := by
        have := (List.getElem?_eq_some_iff.1 hv).1
        simp at this; omega
      rw [List.getElem?_append_left (by omega)] at hv
      intro h2
      have h3 := hin g hg
      have h4 := old j v hj hv g h2
      omega
theorem ssto_done {w wr : World} {n k : Nat} {xss : List (List Int)} (h : SSTo w wr n k xss) (hk : n ≤ k) (hx : xss.length = n) : OwnSS wr w.heap.size wr.heap.size 36 (some ⟨w.heap.size, 0, none⟩) n n xss ∧ Below w.heap.size w wr := by
  obtain ⟨vals, hl, ho, hsz, hrows, hdis, bel⟩ := h
  have e : n - k = 0 := by omega
  rw [e, List.replicate_zero, List.append_nil] at ho
  exact ⟨⟨vals, ho, own_in ho, hx, fun j xs hj => by
    obtain ⟨A', c', h1, h2, h3⟩ := hrows j xs (by have := (List.getElem?_eq_some_iff.1 hj).1; omega) hj
    exact ⟨A', c', h1, h2, inB_wide h3 (by omega) (Nat.le_refl _)⟩, hdis⟩, bel⟩

set_option maxHeartbeats 800000 in
theorem toSS_any {A : Option Addr} {c n : Nat} {xss : List (List Int)} (w : World) (hx : xss.length = n) (ha : RdSS w A xss) (hn : n ≤ 1048576) (hr : ∀ xs ∈ xss, (xs.length : Int) ≤ 1048576) :
    Calls Try.prog 20 #[.slice A n c] w fun e w' => ∃ A' c', e = .returned (.slice A' n c') ∧ OwnSS w' w.heap.size w'.heap.size 36 A' n c' xss ∧ Below w.heap.size w w' := by
  have HX := Lib.hid hx
  have HA := Lib.hid ha
  have HR := Lib.hid hr
  clear hx ha hr
  have hmk := run_make_row' (P := Try.prog) 22 36 (.slice none 0 0) 24 Try.underlying22 Try.infoS rfl .i64 .i64 n (by omega) (by omega)
  go_enter Try.func20, Try.ntmps20
  go_wp2
  clear hmk
  go_loopw [4] (fun i wr => ∃ k : Nat, k ≤ n ∧ i = .int .i64 k ∧ SSTo w wr n k xss) (fun i _ => n - (intOf i).toNat)
  case atStart => exact ⟨0, Nat.zero_le _, rfl, ssto_start w n xss (by unfold maxLen; omega)⟩
  case round =>
    obtain ⟨k, hk, rfl, st⟩ := hrel
    have ST := Lib.hid st
    clear st
    by_cases hlt : k < n
    · obtain ⟨b, o, A', c', xs, rfl, hg, hc, hrd, hm⟩ := (HA.out.keep (show Below w.heap.size w wr from by obtain ⟨_, _, _, _, _, _, h⟩ := ST.out; exact h)).row (k := k) (by rw [HX.out]; exact hlt)
      have HG := Lib.hid hg
      have HRD := Lib.hid hrd
      have hb := HR.out xs (List.mem_of_getElem? hg)
      clear hg hrd
      go_wp2_with fail
      refine (to_any wr rfl HRD.out (by omega)).mono ?_
      rintro e w1 ⟨A1, c1, rfl, own, bel⟩
      obtain ⟨⟨hcell, hfrz⟩, st⟩ := ssto_step ST.out hlt HG.out bel own
      have ST1 := Lib.hid st
      clear own bel st
      go_wp2
      go_roundw
      case rel => exact ⟨k + 1, by omega, by go_num, ST1.out⟩
      case measure => simp [intOf]; omega
    · go_wp2
      go_ret
      have h := ssto_done ST.out (by omega) HX.out
      exact ⟨_, _, rfl, h.1, h.2⟩

theorem eq_true {A B : Option Addr} {c d : Nat} {xs : List Int} {n m : Nat} (w : World) (hx : xs.length = n) (hy : xs.length = m) (ha : Rd w A (ints xs)) (hb : Rd w B (ints xs)) (hn : n ≤ 9223372036854775807) :
    Calls Try.prog 29 #[.slice A n c, .slice B m d] w fun e w' => e = .returned (.bool true) ∧ ∃ j, w' = w.drewN j :=
  (eq_any w hx hy ha hb hn).mono fun _ _ ⟨he, hj⟩ => ⟨by rw [he, decide_eq_true rfl], hj⟩

set_option maxHeartbeats 800000 in
theorem eqSS_same {A B : Option Addr} {c d n m : Nat} {xss : List (List Int)} (w : World) (hx : xss.length = n) (hy : xss.length = m) (ha : RdSS w A xss) (hb : RdSS w B xss) (hn : n ≤ 9223372036854775807) :
    Calls Try.prog 23 #[.slice A n c, .slice B m d] w fun e w' => e = .returned (.bool true) ∧ Below w.heap.size w w' := by
  obtain rfl : n = m := by omega
  have HX := Lib.hid hx
  have HA := Lib.hid ha
  have HB := Lib.hid hb
  clear hx hy ha hb
  have hne : ((n : Int) != (n : Int)) = false := by simp
  go_enter Try.func23, Try.ntmps23
  go_wp2
  go_loopw [5] (fun i wr => ∃ k : Nat, k ≤ n ∧ i = .int .i64 k ∧ Below w.heap.size w wr) (fun i _ => n - (intOf i).toNat)
  case atStart => exact ⟨0, Nat.zero_le _, rfl, Below.refl _ _⟩
  case round =>
    obtain ⟨k, hk, rfl, bel⟩ := hrel
    have BEL := Lib.hid bel
    clear bel
    by_cases hlt : k < n
    · obtain ⟨b, o, A', c', xs, rfl, hg, hc, hrd, hm⟩ := (HA.out.keep BEL.out).row (k := k) (by rw [HX.out]; exact hlt)
      obtain ⟨b2, o2, A2, c2, ys, rfl, hg2, hc2, hrd2, hm2⟩ := (HB.out.keep BEL.out).row (k := k) (by rw [HX.out]; exact hlt)
      obtain rfl : ys = xs := by rw [hg] at hg2; injection hg2 with hg2; exact hg2.symm
      have HRD := Lib.hid hrd
      have HRD2 := Lib.hid hrd2
      clear hg hg2 hrd hrd2
      go_wp2
      go_quiet ((go_at_call 29; refine Calls.quiet_of ((eq_true _ rfl rfl HRD.out HRD2.out hm))))
      go_wp2
      go_roundw
      case rel => exact ⟨k + 1, by omega, by go_num, below_drewN BEL.out _⟩
      case measure => simp [intOf]; omega
    · go_wp2
      go_ret
      exact ⟨rfl, BEL.out⟩
end Go.Proofs.Ytmgoaabeopnopaa
namespace Go.Proofs.Ytmgoaabeopnopaa
open Go.RowKit

def totalL : List (List Int) → Nat
  | [] => 0
  | xs :: r => xs.length + totalL r
/-- What the law writes into rows of rows. -/
def marksSS (k : Int) : List (List Int) → List (List Int)
  | [] => []
  | xs :: r => marks k xs.length :: marksSS (k + xs.length) r
theorem marksSS_length (xss : List (List Int)) : ∀ k, (marksSS k xss).length = xss.length := by
  induction xss with
  | nil => intro k; rfl
  | cons xs r ih => intro k; simp [marksSS, ih]
theorem marksSS_at {xss : List (List Int)} : ∀ {k : Int} {j : Nat} {xs : List Int}, xss[j]? = some xs → (marksSS k xss)[j]? = some (marks (k + totalL (xss.take j)) xs.length) := by
  induction xss with
  | nil => intro k j xs h; simp at h
  | cons ys r ih =>
    intro k j xs h
    cases j with
    | zero => simp at h; subst h; simp [marksSS, totalL]
    | succ j =>
      simp at h
      have := ih (k := k + ys.length) h
      simp only [marksSS, List.getElem?_cons_succ, List.take_succ_cons, totalL]
      rw [this]
      congr 2
      omega
theorem totalL_succ {xss : List (List Int)} : ∀ {j : Nat} {xs : List Int}, xss[j]? = some xs → totalL (xss.take (j + 1)) = totalL (xss.take j) + xs.length := by
  induction xss with
  | nil => intro j xs h; simp at h
  | cons ys r ih =>
    intro j xs h
    cases j with
    | zero => simp at h; subst h; simp [totalL]
    | succ j =>
      simp at h
      simp only [List.take_succ_cons, totalL]
      rw [ih h]
      omega
theorem totalL_le {xss : List (List Int)} (h : ∀ xs ∈ xss, (xs.length : Int) ≤ 1048576) : ∀ j, totalL (xss.take j) ≤ j * 1048576 := by
  intro j
  induction j with
  | zero => rw [List.take_zero]; exact Nat.zero_le _
  | succ j ih =>
    by_cases hj : j < xss.length
    · rw [totalL_succ (List.getElem?_eq_getElem hj)]
      have := h xss[j] (List.getElem_mem hj)
      omega
    · have e1 : xss.take (j + 1) = xss := List.take_of_length_le (by omega)
      have e2 : xss.take j = xss := List.take_of_length_le (by omega)
      rw [e2] at ih
      rw [e1]
      exact Nat.le_trans ih (Nat.mul_le_mul_right _ (Nat.le_succ j))
theorem get_some {xss : List (List Int)} {k : Nat} (h : k < xss.length) : ∃ xs, xss[k]? = some xs := ⟨_, List.getElem?_eq_getElem h⟩
theorem own_ne {w : World} {b1 b2 e1 e2 n1 n2 : Nat} {v1 v2 : Value} {xs1 xs2 : List Value} (h1 : w.ownsRow b1 e1 1 v1 n1 xs1) (h2 : w.ownsRow b2 e2 1 v2 n2 xs2) (hne : e1 ≠ e2) : v1.ownBlock = none ∨ v1.ownBlock ≠ v2.ownBlock := by
  rcases h1.2 with ⟨rfl, _⟩ | ⟨g, cap, cur, rfl, _, hg, _⟩
  · left; rfl
  · right
    rcases h2.2 with ⟨rfl, _⟩ | ⟨g', cap', cur', rfl, _, hg', _⟩
    · simp [Value.ownBlock]
    · intro he
      have e : g = g' := by simpa [Value.ownBlock] using he
      subst e
      rw [hg] at hg'
      injection hg' with hg'
      injection hg' with _ hx
      exact hne hx
theorem own_base_of {w w' : World} {b1 b2 e n m : Nat} {v : Value} {xs ys : List Value} (h : w.ownsRow b1 e 1 v n xs) (h' : w'.ownsRow b2 e 1 v m ys) : w'.ownsRow b1 e 1 v m ys := by
  refine ⟨h'.1, ?_⟩
  rcases h'.2 with hn | ⟨g, cap, cur, hv, _, rest⟩
  · exact .inl hn
  · refine .inr ⟨g, cap, cur, hv, ?_, rest⟩
    exact (h.lt g (by rw [hv]; rfl)).1
/-- One row is written; the others are as they were. -/
theorem ownSS_set {w w' : World} {lo hi e n c k c1 : Nat} {A A1 : Option Addr} {xss : List (List Int)} {xs ys : List Int} (h : OwnSS w lo hi e A n c xss) (he : e ≠ 2) (hx : xss[k]? = some xs) (hl : ys.length = xs.length)
    (hrow : ∀ vals : List Value, w.ownsRow lo e 1 (.slice A n c) n vals → vals[k]? = some (.slice A1 xs.length c1)) (hg : w.grownBy w' (Value.slice A1 xs.length c1).ownBlock)
    (own : ∀ base, w.ownsRow base 2 1 (.slice A1 xs.length c1) xs.length (ints xs) → w'.ownsRow base 2 1 (.slice A1 xs.length c1) xs.length (ints ys)) : OwnSS w' lo hi e A n c (xss.set k ys) := by
  obtain ⟨vals, h1, hp, h2, h3, h4⟩ := h
  have hk := hrow vals h1
  obtain ⟨A', c', e1, o1, p1⟩ := h3 k xs hx
  rw [hk] at e1
  simp only [Option.some.injEq, Value.slice.injEq] at e1
  obtain ⟨rfl, _, rfl⟩ := e1
  refine ⟨vals, h1.kept hg (own_ne h1 o1 he), hp, by simp [h2], ?_, h4⟩
  intro j zs hj
  by_cases ej : j = k
  · subst ej
    have hlt : j < xss.length := (List.getElem?_eq_some_iff.1 hx).1
    rw [List.getElem?_set_self hlt] at hj
    injection hj with hj
    subst hj
    exact ⟨A1, c1, by rw [hl]; exact hk, by rw [hl]; exact own lo o1, by rw [hl]; exact p1⟩
  · rw [List.getElem?_set_ne (fun e => ej e.symm)] at hj
    obtain ⟨A2, c2, e2, o2, p2⟩ := h3 j zs hj
    refine ⟨A2, c2, e2, o2.kept hg ?_, p2⟩
    cases hb : (Value.slice A2 zs.length c2).ownBlock with
    | none => exact .inl rfl
    | some g => exact .inr fun h => h4 j k _ _ ej e2 hk g hb h.symm
/-- The value of a row, whichever way the outer row is told. -/
theorem row_unique {w : World} {b1 e n c : Nat} {A : Option Addr} {vs vs' : List Value} (h : w.ownsRow b1 e 1 (.slice A n c) n vs) (h' : w.ownsRow b1 e 1 (.slice A n c) n vs') : vs = vs' := by
  rcases h.2 with ⟨hv, h0⟩ | ⟨g, cap, cur, hv, _, hg, _, _, _, ht⟩
  · have e1 := h.1
    have e2 := h'.1
    subst h0
    simp at e1 e2
    rw [e1, e2]
  · rcases h'.2 with ⟨hv', h0⟩ | ⟨g', cap', cur', hv', _, hg', _, _, _, ht'⟩
    · rw [hv] at hv'; cases hv'
    · rw [hv] at hv'
      simp only [Value.slice.injEq, Option.some.injEq, Addr.mk.injEq, and_true, true_and] at hv'
      obtain ⟨rfl, rfl⟩ := hv'
      rw [hg] at hg'
      injection hg' with hg'
      injection hg' with hc
      subst hc
      rw [← ht, ← ht']

def markTo (k0 : Int) (xss : List (List Int)) (k : Nat) : List (List Int) := (marksSS k0 xss).take k ++ xss.drop k
theorem markTo_set {k0 : Int} {xss : List (List Int)} {k : Nat} {xs : List Int} (hx : xss[k]? = some xs) : (markTo k0 xss k).set k (marks (k0 + totalL (xss.take k)) xs.length) = markTo k0 xss (k + 1) := by
  have hk : k < xss.length := (List.getElem?_eq_some_iff.1 hx).1
  have hl : ((marksSS k0 xss).take k).length = k := by simp [marksSS_length]; omega
  unfold markTo
  rw [List.set_append_right _ _ (by omega), hl, Nat.sub_self, List.drop_eq_getElem_cons hk, List.set_cons_zero, List.take_add_one, marksSS_at hx]
  simp
theorem markTo_at {k0 : Int} {xss : List (List Int)} {k : Nat} {xs : List Int} (hx : xss[k]? = some xs) : (markTo k0 xss k)[k]? = some xs := by
  have hk : k < xss.length := (List.getElem?_eq_some_iff.1 hx).1
  have hl : ((marksSS k0 xss).take k).length = k := by simp [marksSS_length]; omega
  unfold markTo
  rw [List.getElem?_append_right (by omega), hl, Nat.sub_self, List.getElem?_drop, Nat.add_zero, hx]

set_option maxHeartbeats 800000 in
theorem markSS_any {A : Option Addr} {c n lo hi e : Nat} {xss : List (List Int)} (k0 : Int) (w : World) (ho : OwnSS w lo hi e A n c xss) (he : e ≠ 2) (hn : n ≤ 1048576) (hr : ∀ xs ∈ xss, (xs.length : Int) ≤ 1048576) (h0 : 0 ≤ k0) (h1 : k0 ≤ 100000000000000000) :
    Calls Try.prog 25 #[.slice A n c, .int .i64 k0] w fun e' w' => e' = .returned (.int .i64 (k0 + totalL xss)) ∧ OwnSS w' lo hi e A n c (marksSS k0 xss) ∧ Turns lo hi w w' := by
  have hx : xss.length = n := ho.choose_spec.2.2.1
  have HX := Lib.hid hx
  have HO := Lib.hid ho
  have HR := Lib.hid hr
  have HE := Lib.hid he
  clear hx ho hr he
  go_enter Try.func25, Try.ntmps25
  go_wp2
  go_loopw [1, 5] (fun q i wr => ∃ k t : Nat, k ≤ n ∧ i = .int .i64 k ∧ q = .int .i64 (k0 + t) ∧ t = totalL (xss.take k) ∧ OwnSS wr lo hi e A n c (markTo k0 xss k) ∧ Turns lo hi w wr) (fun _ i _ => n - (intOf i).toNat)
  case atStart => exact ⟨0, 0, Nat.zero_le _, rfl, by simp, by simp [totalL], by simpa [markTo] using HO.out, Turns.refl _ _ _⟩
  case round =>
    obtain ⟨k, t, hk, rfl, rfl, ht, own, tu⟩ := hrel
    have hb := totalL_le HR.out k
    have htb : t ≤ k * 1048576 := by omega
    have OWN := Lib.hid own
    have TU := Lib.hid tu
    have HT := Lib.hid ht
    clear own tu ht hb
    by_cases hlt : k < n
    · obtain ⟨xs, hxs⟩ := get_some (xss := xss) (k := k) (by rw [HX.out]; exact hlt)
      have hlen := HR.out xs (List.mem_of_getElem? hxs)
      obtain ⟨vals, a1, a2, a3, a4, a5⟩ := OWN.out
      obtain ⟨A', c', e1, o1, p1⟩ := a4 k xs (markTo_at hxs)
      obtain ⟨g, rfl⟩ := own_shape a1 (by omega)
      have hcell := own_cell a1 e1
      have hrow : ∀ vals' : List Value, wr.ownsRow lo e 1 (.slice (some ⟨g, 0, none⟩) n c) n vals' → vals'[k]? = some (.slice A' xs.length c') := fun vals' h => by rw [← row_unique a1 h]; exact e1
      have O1 := Lib.hid o1
      have P1 := Lib.hid p1
      have HROW := Lib.hid hrow
      have HXS := Lib.hid hxs
      clear a1 a2 a3 a4 a5 e1 o1 p1 hrow hxs
      go_wp2_with fail
      refine (mark_any (k0 + t) wr O1.out (by omega) (by omega) (by omega)).mono ?_
      rintro e' w1 ⟨rfl, own1, gr⟩
      have hnew := ownSS_set OWN.out HE.out (markTo_at HXS.out) (marks_length _ _) HROW.out gr (fun base hb => own_base_of hb own1)
      rw [HT.out, markTo_set HXS.out] at hnew
      have NEW := Lib.hid hnew
      have GR := Lib.hid gr
      clear hnew own1 gr
      go_wp2
      go_roundw
      case rel => exact ⟨k + 1, t + xs.length, by omega, by go_num, by go_num, by rw [totalL_succ HXS.out, HT.out], NEW.out, TU.out.trans (Turns.of_grown GR.out P1.out)⟩
      case measure => simp [intOf]; omega
    · go_wp2
      go_ret
      obtain rfl : k = n := by omega
      have e2 : xss.take k = xss := List.take_of_length_le (by rw [HX.out]; exact Nat.le_refl _)
      refine ⟨ret_i64 (by rw [HT.out, e2]), ?_, TU.out⟩
      have h := OWN.out
      unfold markTo at h
      rwa [List.take_of_length_le (by rw [marksSS_length, HX.out]; exact Nat.le_refl _), List.drop_of_length_le (by rw [HX.out]; exact Nat.le_refl _), List.append_nil] at h

set_option maxHeartbeats 800000 in
theorem heldSS_any {A : Option Addr} {c n : Nat} {xss : List (List Int)} (k0 : Int) (w : World) (hx : xss.length = n) (ha : RdSS w A (marksSS k0 xss)) (hn : n ≤ 1048576) (hr : ∀ xs ∈ xss, (xs.length : Int) ≤ 1048576) (h0 : 0 ≤ k0) (h1 : k0 ≤ 100000000000000000) :
    Calls Try.prog 41 #[.slice A n c, .int .i64 k0] w fun e' w' => e' = .returned (.int .i64 (k0 + totalL xss)) ∧ w = w' := by
  have HX := Lib.hid hx
  have HA := Lib.hid ha
  have HR := Lib.hid hr
  clear hx ha hr
  go_enter Try.func41, Try.ntmps41
  go_wp2
  go_loop [1, 5] (fun q i => ∃ k t : Nat, k ≤ n ∧ i = .int .i64 k ∧ q = .int .i64 (k0 + t) ∧ t = totalL (xss.take k)) (fun _ i => n - (intOf i).toNat)
  case atStart => exact ⟨0, 0, Nat.zero_le _, rfl, by simp, by simp [totalL]⟩
  case round =>
    obtain ⟨k, t, hk, rfl, rfl, ht⟩ := hrel
    have hb := totalL_le HR.out k
    have htb : t ≤ k * 1048576 := by omega
    have HT := Lib.hid ht
    clear ht hb
    by_cases hlt : k < n
    · obtain ⟨xs, hxs⟩ := get_some (xss := xss) (k := k) (by rw [HX.out]; exact hlt)
      have hlen := HR.out xs (List.mem_of_getElem? hxs)
      obtain ⟨b, o, A', c', ys, rfl, hg, hc, hrd, hm⟩ := HA.out.row (k := k) (by rw [marksSS_length, HX.out]; exact hlt)
      rw [marksSS_at hxs] at hg
      injection hg with hg
      subst hg
      rw [marks_length] at hc
      have HRD := Lib.hid hrd
      have HXS := Lib.hid hxs
      have HE := Lib.hid HT.out
      clear hrd hxs hm
      go_wp2_with fail
      refine (held_any (k0 + t) w (by rw [HT.out]; exact HRD.out) (by omega) (by omega) (by omega)).mono ?_
      rintro e' w1 ⟨rfl, rfl⟩
      clear HE
      go_wp2
      go_round
      case rel => exact ⟨k + 1, t + xs.length, by omega, by go_num, by go_num, by rw [totalL_succ HXS.out, HT.out]⟩
      case measure => simp [intOf]; omega
    · go_wp2
      go_ret
      obtain rfl : k = n := by omega
      have e2 : xss.take k = xss := List.take_of_length_le (by rw [HX.out]; exact Nat.le_refl _)
      exact ⟨ret_i64 (by rw [HT.out, e2]), rfl⟩
end Go.Proofs.Ytmgoaabeopnopaa
