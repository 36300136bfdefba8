/- Words for slices of int64 in memory: a slice that reads as a list, a slice that the call owns; plain facts, no program. -/
import Derived.Test.YtbjfeogkdfmjpaaProg
import Derived.WalkKit
import Derived.Deep.OwnRows
import Derived.Deep.QuietTactic
import Derived.BigQuiet
import Derived.Deep.Draws
import Derived.Lib.Hide
import Derived.WalkLawsBesides
namespace Go.Proofs.Ytbjfeogkdfmjpaa
open Go.RowKit

abbrev ints (xs : List Int) : List Value := xs.map (Value.int .i64)

/-- The slice value with the address A reads the cells vs. -/
def Rd (w : World) (A : Option Addr) (vs : List Value) : Prop :=
  0 < vs.length → ∃ b o, A = some ⟨b, o, none⟩ ∧ ∀ k u, vs[k]? = some u → w.cell? ⟨b, o + k, none⟩ = some u

theorem ret_bool {a b : Bool} (h : a = b) : Ending.returned (.bool a) = .returned (.bool b) := by rw [h]
theorem ret_i64 {a b : Int} (h : a = b) : Ending.returned (.int .i64 a) = .returned (.int .i64 b) := by rw [h]

section
variable {w w' : World} {A : Option Addr} {vs : List Value} {xs : List Int} {base e n c : Nat}

theorem Rd.nil : Rd w A [] := fun h => absurd h (by simp)

theorem Rd.keep (h : Rd w A vs) (hb : Below w.heap.size w w') : Rd w' A vs := fun hl => by
  obtain ⟨b, o, e, hc⟩ := h hl
  refine ⟨b, o, e, fun k u hu => ?_⟩
  have := hc k u hu
  exact (hb.cell (p := ⟨b, o + k, none⟩) (World.block_lt_of_cell? w _ this)).trans this

theorem Rd.grown {row : Option Nat} (h : Rd w A vs) (hg : w.grownBy w' row) (hr : ∀ b o, A = some ⟨b, o, none⟩ → some b ≠ row) : Rd w' A vs := fun hl => by
  obtain ⟨b, o, e, hc⟩ := h hl
  exact ⟨b, o, e, fun k u hu => hg.cell (hc k u hu) (hr b o e)⟩

theorem Rd.drew (h : Rd w A vs) : Rd w.drew A vs := h
theorem Rd.drewN (h : Rd w A vs) (k : Nat) : Rd (w.drewN k) A vs := h

theorem Rd.int (h : Rd w A (ints xs)) {k : Nat} (hk : k < xs.length) :
    ∃ b o x, A = some ⟨b, o, none⟩ ∧ xs[k]? = some x ∧ w.cell? ⟨b, o + k, none⟩ = some (.int .i64 x) := by
  obtain ⟨b, o, e, hc⟩ := h (by simp; omega)
  exact ⟨b, o, xs[k], e, List.getElem?_eq_getElem hk, hc k _ (by simp [hk])⟩

theorem own_rd (h : w.ownsRow base e 1 (.slice A n c) n vs) : Rd w A vs := fun hl => by
  have hn : n = vs.length := by have := h.1; omega
  rcases h.2 with ⟨_, h0⟩ | ⟨g, cap, cur, hv, _⟩
  · omega
  · simp only [Value.slice.injEq] at hv
    obtain ⟨rfl, _, rfl⟩ := hv
    refine ⟨g, 0, rfl, fun k u hu => ?_⟩
    have hk : k < vs.length := (List.getElem?_eq_some_iff.1 hu).1
    rw [Nat.zero_add, h.cellAt k (by omega), hu]

theorem own_block (h : w.ownsRow base e 1 (.slice A n c) n vs) {b o : Nat} (hA : A = some ⟨b, o, none⟩) : base ≤ b ∧ b < w.heap.size := by
  subst hA
  exact h.lt b rfl

theorem own_below {B : Nat} (h : w.ownsRow base e 1 (.slice A n c) n vs) (hb : Below B w w') (hB : w.heap.size ≤ B) : w'.ownsRow base e 1 (.slice A n c) n vs :=
  h.kept (row := none) ⟨hb.os, hb.tape, hb.output, hb.size, fun k hk _ => hb.block k (by omega)⟩ (by cases hv : (Value.slice A n c).ownBlock <;> simp)

theorem own_cell {g : Nat} {u : Value} (h : w.ownsRow base e 1 (.slice (some ⟨g, 0, none⟩) n c) n vs) {k : Nat} (hk : vs[k]? = some u) : w.cell? ⟨g, k, none⟩ = some u := by
  have := (List.getElem?_eq_some_iff.1 hk).1
  rw [h.cellAt k (by have := h.1; omega), hk]

theorem own_base {base' : Nat} {v : Value} (h : w.ownsRow base e 1 v n vs) (hb : base' ≤ base) : w.ownsRow base' e 1 v n vs := by
  refine ⟨h.1, ?_⟩
  rcases h.2 with hn | ⟨g, cap, cur, hv, hg, rest⟩
  · exact .inl hn
  · exact .inr ⟨g, cap, cur, hv, Nat.le_trans hb hg, rest⟩

/-- The block of a slice value lies in [lo, hi). -/
def InB (v : Value) (lo hi : Nat) : Prop := ∀ k, v.ownBlock = some k → lo ≤ k ∧ k < hi
theorem own_in (h : w.ownsRow base e 1 (.slice A n c) n vs) : InB (.slice A n c) base w.heap.size := fun k hk => h.lt k hk
theorem own_apart {v : Value} {lo hi lo' hi' : Nat} (h : w.ownsRow base e 1 (.slice A n c) n vs) (hg : w.grownBy w' v.ownBlock) (hp : InB (.slice A n c) lo hi) (hp' : InB v lo' hi') (hd : hi ≤ lo' ∨ hi' ≤ lo) :
    w'.ownsRow base e 1 (.slice A n c) n vs := by
  refine h.kept hg ?_
  cases hk : (Value.slice A n c).ownBlock with
  | none => exact .inl rfl
  | some k =>
    right
    intro h2
    have h3 := hp k hk
    have h4 := hp' k h2.symm
    omega
theorem below_mark {B : Nat} {w0 : World} {v : Value} {lo hi : Nat} (h : Below B w0 w) (hg : w.grownBy w' v.ownBlock) (hp : InB v lo hi) (hB : B ≤ w.heap.size) (hlo : B ≤ lo) : Below B w0 w' :=
  h.grown hg hB fun k hk => Nat.le_trans hlo (hp k hk).1

theorem own_shape (h : w.ownsRow base e 1 (.slice A n c) n vs) (hn : 0 < n) : ∃ g, A = some ⟨g, 0, none⟩ := by
  rcases h.2 with ⟨_, h0⟩ | ⟨g, cap, cur, hv, _⟩
  · omega
  · simp only [Value.slice.injEq] at hv
    exact ⟨g, hv.1⟩

/-- What a call gives back that makes a slice and a code: the list, in memory of its own, and nothing that was there has turned. -/
def RetS (w : World) (L : List Int) (C : Int) (e : Ending) (w' : World) : Prop :=
  ∃ A c, e = .returned (.tuple #[.slice A L.length c, .int .i64 C]) ∧ w'.ownsRow w.heap.size 2 1 (.slice A L.length c) L.length (ints L) ∧ Below w.heap.size w w'
def Ret1 (w : World) (L : List Int) (e : Ending) (w' : World) : Prop :=
  ∃ A c, e = .returned (.slice A L.length c) ∧ w'.ownsRow w.heap.size 2 1 (.slice A L.length c) L.length (ints L) ∧ Below w.heap.size w w'

theorem make_own (w : World) (z : Value) (n e : Nat) (hm : n ≤ maxLen) :
    (w.alloc (.cells (madeCells #[z] n) e)).ownsRow w.heap.size e 1 (.slice (some ⟨w.heap.size, 0, none⟩) n n) n (List.replicate n z) := by
  have h := World.ownsRow_lit (base := w.heap.size) (e := e) (size := 1) w (madeCells #[z] n) n (Nat.le_refl _) hm (by simp [size_madeCells])
  rwa [toList_madeCells_one] at h
end

theorem ints_set (xs : List Int) (k : Nat) (x : Int) : (ints xs).set k (.int .i64 x) = ints (xs.set k x) := by simp [List.map_set]
theorem fill_step {xs : List Int} {n k : Nat} {x : Int} (hn : xs.length = n) (hx : xs[k]? = some x) :
    (xs.take k ++ List.replicate (n - k) (0 : Int)).set k x = xs.take (k + 1) ++ List.replicate (n - (k + 1)) 0 := by
  have hk : k < xs.length := (List.getElem?_eq_some_iff.1 hx).1
  rw [List.set_append_right _ _ (by simp; omega), List.take_add_one, hx]
  have e : k - (xs.take k).length = 0 := by simp; omega
  have e2 : n - k = (n - (k + 1)) + 1 := by omega
  rw [e, e2, List.replicate_succ]
  simp
theorem fill_at {xs : List Int} {n k : Nat} (hk : k < n) (hn : xs.length = n) : (ints (xs.take k ++ List.replicate (n - k) (0 : Int)))[k]? = some (.int .i64 0) := by
  rw [ints, List.map_append, List.getElem?_append_right (by simp; omega)]
  simp [List.getElem?_replicate]
  omega
/-- What the law writes into a slice to see whose memory it is: k, k + 1, .. -/
def marks (k : Int) (n : Nat) : List Int := (List.range n).map fun (j : Nat) => k + (j : Int)
theorem marks_length (k : Int) (n : Nat) : (marks k n).length = n := by simp [marks]
theorem marks_at {k : Int} {n j : Nat} (h : j < n) : (marks k n)[j]? = some (k + (j : Int)) := by simp [marks, h]
theorem mark_step {xs : List Int} {n j : Nat} {k : Int} (hn : xs.length = n) (hj : j < n) :
    (marks k j ++ xs.drop j).set j (k + (j : Int)) = marks k (j + 1) ++ xs.drop (j + 1) := by
  rw [List.set_append_right _ _ (by simp [marks])]
  have e : j - (marks k j).length = 0 := by simp [marks]
  rw [e, List.drop_eq_getElem_cons (by omega : j < xs.length), List.set_cons_zero]
  simp [marks, List.range_succ]
theorem mark_cell {xs : List Int} {n j : Nat} {k : Int} (hn : xs.length = n) (hj : j < n) : ∃ u, (ints (marks k j ++ xs.drop j))[j]? = some (.int .i64 u) :=
  ⟨xs[j], by
    rw [ints, List.map_append, List.getElem?_append_right (by simp [marks])]
    simp [marks, show j < xs.length by omega]⟩
end Go.Proofs.Ytbjfeogkdfmjpaa
