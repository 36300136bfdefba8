/- What holds at the two loops that find the cycles: facts outside the walks. -/
import Derived.Test.YtbjfeogkdfmjpaaCyc
namespace Go.Proofs.Ytbjfeogkdfmjpaa
open Go.RowKit

structure COut (w wr : World) (e g0 n k : Nat) (xs : List Int) (A : Option Addr) (m c : Nat) : Prop where
  rows : OwnSS wr w.heap.size wr.heap.size e A m c (cycTo xs n k)
  seen : wr.ownsRow w.heap.size 4 1 (.slice (some ⟨g0, 0, none⟩) n n) n (seenL n (cycTo xs n k).flatten)
  bel : Below w.heap.size w wr
structure CIn (w wi : World) (e g0 n k bc : Nat) (xs : List Int) (A : Option Addr) (m c : Nat) (cur : List Int) (p : Nat) (A' : Option Addr) (mc c' : Nat) : Prop where
  rows : OwnSS wi w.heap.size bc e A m c (cycTo xs n k)
  seen : wi.ownsRow w.heap.size 4 1 (.slice (some ⟨g0, 0, none⟩) n n) n (seenL n ((cycTo xs n k).flatten ++ cur))
  g0b : g0 < bc
  own : wi.ownsRow bc 2 1 (.slice A' mc c') mc (ints cur)
  ps : Passed n ((cycTo xs n k).flatten ++ cur)
  pn : p < n
  tr : trail xs (cycTo xs n k).flatten (n - ((cycTo xs n k).flatten ++ cur).length) cur p = trail xs (cycTo xs n k).flatten (n - (cycTo xs n k).flatten.length) [] k
  bel : Below w.heap.size w wi
  sz : bc ≤ wi.heap.size

section
variable {w wr wi w1 : World} {e g0 n k bc m c p q mc c' : Nat} {xs cur : List Int} {A A' : Option Addr}
theorem cin_start (h : COut w wr e g0 n k xs A m c) (hxn : xs.length = n) (hok : okP xs = true) (hk : k < n)
    (hw : (wi = wr ∧ A' = none ∧ c' = 0) ∨ (wi = wr.alloc (.cells #[] 2) ∧ A' = some ⟨wr.heap.size, 0, none⟩ ∧ c' = 0)) : CIn w wi e g0 n k wr.heap.size xs A m c [] k A' 0 c' := by
  have hp := cycTo_passed hxn hok k (by omega)
  have hg := (h.seen.lt g0 rfl).2
  rcases hw with ⟨rfl, rfl, rfl⟩ | ⟨rfl, rfl, rfl⟩
  · exact ⟨h.rows, by simpa using h.seen, hg, World.ownsRow_nil _ _ _ _, by simpa using hp, hk, by simp, h.bel, Nat.le_refl _⟩
  · have hb : Below wr.heap.size wr (wr.alloc (.cells #[] 2)) := (Below.refl _ _).alloc (Nat.le_refl _) _
    exact ⟨ownSS_below h.rows hb (Nat.le_refl _), by simpa using own_below h.seen hb (Nat.le_refl _), hg,
      by simpa using World.ownsRow_made (base := wr.heap.size) (e := 2) (size := 1) wr #[] 0 (Nat.le_refl _) (Nat.zero_le _) (by simp), by simpa using hp, hk, by simp, h.bel.alloc h.bel.size _, by simp⟩
theorem seen_start (w : World) (n : Nat) (hn : n ≤ 9223372036854775807) : (w.alloc (.cells (madeCells #[.bool false] n) 4)).ownsRow w.heap.size 4 1 (.slice (some ⟨w.heap.size, 0, none⟩) n n) n (seenL n []) := by
  rw [seenL_nil]
  exact make_own w (.bool false) n 4 (by unfold maxLen; omega)
theorem cout_start (w : World) (n : Nat) (xs : List Int) (hn : n ≤ 9223372036854775807) :
    COut w ((w.alloc (.cells #[] 24)).alloc (.cells (madeCells #[.bool false] n) 4)) 24 (w.heap.size + 1) n 0 xs (some ⟨w.heap.size, 0, none⟩) 0 0 := by
  have h1 := World.ownsRow_made (base := w.heap.size) (e := 24) (size := 1) w #[] 0 (Nat.le_refl _) (Nat.zero_le _) (by simp)
  have h2 := seen_start (w.alloc (.cells #[] 24)) n hn
  have hs : (w.alloc (Obj.cells #[] 24)).heap.size = w.heap.size + 1 := by simp
  rw [hs] at h2
  exact ⟨⟨[], h1.alloc _, fun k hk => by simp [Value.ownBlock] at hk; subst hk; simp; omega, rfl, fun j xs h => by simp [cycTo] at h, fun i j u v _ h => by simp at h⟩, by simpa [cycTo] using own_base h2 (by omega),
    ((Below.refl _ _).alloc (Nat.le_refl _) _).alloc (by simp) _⟩
theorem cout_start0 (w : World) (n : Nat) (xs : List Int) (hn : n ≤ 9223372036854775807) :
    COut w (w.alloc (.cells (madeCells #[.bool false] n) 4)) 68 w.heap.size n 0 xs none 0 0 :=
  ⟨ownSS_nil _ _ _ _, by simpa [cycTo] using seen_start w n hn, (Below.refl _ _).alloc (Nat.le_refl _) _⟩
/-- The mark of a new point. -/
theorem cin_mark (h : CIn w wi e g0 n k bc xs A m c cur p A' mc c') : (wi.setCell ⟨g0, p, none⟩ (.bool true)).ownsRow bc 2 1 (.slice A' mc c') mc (ints cur) :=
  h.own.kept (h.seen.stored p (.bool true)).2 (own_ne h.own h.seen (by decide))
theorem cin_step {A3 : Option Addr} {c3 : Nat} (h : CIn w wi e g0 n k bc xs A m c cur p A' mc c') (he : e ≠ 4) (hn : ¬ (p : Int) ∈ (cycTo xs n k).flatten ++ cur) (hx : xs[p]? = some (q : Int)) (hq : q < n)
    (own : w1.ownsRow bc 2 1 (.slice A3 (mc + 1) c3) (mc + 1) (ints cur ++ [.int .i64 p])) (hb : Below bc (wi.setCell ⟨g0, p, none⟩ (.bool true)) w1) :
    CIn w w1 e g0 n k bc xs A m c (cur ++ [(p : Int)]) q A3 (mc + 1) c3 := by
  have hst := h.seen.stored p (.bool true)
  have hlo : w.heap.size ≤ g0 := (h.seen.lt g0 rfl).1
  have hin : InB (.slice (some ⟨g0, 0, none⟩) n n) w.heap.size bc := fun k hk => by simp [Value.ownBlock] at hk; have := h.g0b; omega
  have hr := ownSS_other h.rows h.seen hst.2 he (by decide)
  have hsz := hb.size
  have hsz2 : (wi.setCell ⟨g0, p, none⟩ (.bool true)).heap.size = wi.heap.size := by simp
  have hg0 := h.g0b
  have hsz3 := h.sz
  refine ⟨ownSS_lt hr hb (Nat.le_refl _), ?_, h.g0b, by simpa using own, ?_, hq, ?_, ?_, by omega⟩
  · have h1 := own_lt hst.1 hin hb (Nat.le_refl _)
    rwa [seenL_set, List.append_assoc] at h1
  · rw [← List.append_assoc]; exact passed_snoc h.ps h.pn hn
  · rw [← trail_out h.ps h.pn hn hx]; exact h.tr
  · exact (h.bel.setCell hlo _).trans (hb.mono (by omega))
theorem cin_len (h : CIn w wi e g0 n k bc xs A m c cur p A' mc c') (hn : ¬ (p : Int) ∈ (cycTo xs n k).flatten ++ cur) : ((cycTo xs n k).flatten ++ cur).length < n := by
  have := passed_len (passed_snoc h.ps h.pn hn)
  simp at this ⊢
  omega
theorem cin_cur (h : CIn w wi e g0 n k bc xs A m c cur p A' mc c') : mc = cur.length ∧ mc ≤ n := by
  have h1 := h.own.1
  have h2 := passed_len h.ps
  simp at h1 h2
  omega
theorem cin_done {w4 : World} {o : Obj} {A2 : Option Addr} {c2 : Nat} (h : CIn w wi e g0 n k bc xs A m c cur p A' mc c') (he : e ≠ 2) (heb : e ≠ 4) (hk : ¬ (k : Int) ∈ (cycTo xs n k).flatten) (hin : (p : Int) ∈ (cycTo xs n k).flatten ++ cur)
    (hnew : ∀ vals, wi.ownsRow w.heap.size e 1 (.slice A m c) m vals → w4.ownsRow w.heap.size e 1 (.slice A2 (m + 1) c2) (m + 1) (vals ++ [.slice A' mc c'])) (hg : (wi.alloc o).grownBy w4 (Value.slice A m c).ownBlock) :
    COut w w4 e g0 n (k + 1) xs A2 (m + 1) c2 := by
  have ht := h.tr
  rw [trail_in hin] at ht
  have hcur := (cin_cur h).1
  have hlo : w.heap.size ≤ bc := by have := (h.seen.lt g0 rfl).1; have := h.g0b; omega
  have ho := h.own
  rw [hcur] at ho hnew
  obtain ⟨vals, a1, _⟩ := h.rows
  have hpush := ownSS_push h.rows he ho (Nat.le_refl _) hlo hnew hg
  have hc : cycTo xs n (k + 1) = cycTo xs n k ++ [cur] := by rw [cycTo_out hk, ← ht]
  refine ⟨by rw [hc]; exact hpush, ?_, ?_⟩
  · rw [hc, List.flatten_append]
    simpa using (h.seen.alloc o).kept hg (own_ne (h.seen.alloc o) (a1.alloc o) (fun e1 => heb e1.symm))
  · have hB := h.bel.size
    exact (h.bel.alloc hB o).grown hg (by simp; omega) fun b hb => (a1.lt b hb).1
theorem trail_le (xs vis : List Int) : ∀ (f : Nat) (cur : List Int) (p : Int), cur.length ≤ (trail xs vis f cur p).length
  | 0, cur, p => Nat.le_refl _
  | f + 1, cur, p => by
    unfold trail
    split
    · exact Nat.le_refl _
    · exact Nat.le_trans (by simp) (trail_le xs vis f _ _)
theorem cin_pos (h : CIn w wi e g0 n k bc xs A m c cur p A' mc c') (hxn : xs.length = n) (hok : okP xs = true) (hkn : k < n) (hk : ¬ (k : Int) ∈ (cycTo xs n k).flatten) (hin : (p : Int) ∈ (cycTo xs n k).flatten ++ cur) : 0 < mc := by
  have ht := h.tr
  rw [trail_in hin] at ht
  have hp := cycTo_passed hxn hok k (by omega)
  have hx : xs[k]? = some xs[k] := List.getElem?_eq_getElem (by omega)
  obtain ⟨q, hq, _⟩ := okP_at hok hxn hx
  have h2 := trail_out (xs := xs) (vis := (cycTo xs n k).flatten) (cur := []) (n := n) (p := k) (q := q) (by simpa using hp) hkn (by simpa using hk) (by rw [hx, hq])
  have h3 := trail_le xs (cycTo xs n k).flatten (n - ((cycTo xs n k).flatten ++ ([] ++ [(k : Int)])).length) ([] ++ [(k : Int)]) q
  rw [← h2] at h3
  simp only [List.append_nil] at h3
  rw [← ht] at h3
  have := (cin_cur h).1
  simp at h3
  omega
theorem cout_skip (h : COut w wr e g0 n k xs A m c) (hk : (k : Int) ∈ (cycTo xs n k).flatten) : COut w wr e g0 n (k + 1) xs A m c := by
  obtain ⟨h1, h2, h3⟩ := h
  exact ⟨by rw [cycTo_in hk]; exact h1, by rw [cycTo_in hk]; exact h2, h3⟩
theorem cout_len (h : COut w wr e g0 n k xs A m c) : m = (cycTo xs n k).length ∧ m ≤ k := by
  have h1 : (cycTo xs n k).length = m := h.rows.choose_spec.2.2.1
  have h2 := cycTo_le (xs := xs) (n := n) k
  omega
theorem cout_rows (h : COut w wr e g0 n k xs A m c) : ∃ vals, wr.ownsRow w.heap.size e 1 (.slice A m c) m vals := ⟨_, h.rows.choose_spec.1⟩
theorem cin_rows (h : CIn w wi e g0 n k bc xs A m c cur p A' mc c') : ∃ vals, wi.ownsRow w.heap.size e 1 (.slice A m c) m vals := ⟨_, h.rows.choose_spec.1⟩
end
end Go.Proofs.Ytbjfeogkdfmjpaa
