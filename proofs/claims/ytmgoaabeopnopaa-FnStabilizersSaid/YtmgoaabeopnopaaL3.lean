import Derived.Test.YtmgoaabeopnopaaL1
import Derived.Test.YtmgoaabeopnopaaL2
import Derived.Laws.AppendOwnNone
import Derived.Sort.OwnSortedInts
import Derived.Deep.LoopGhost
import Derived.Outline
/- Cycles of a permutation as both programs find them; plain facts; a row pushed onto rows. -/
namespace Go.Proofs.Ytmgoaabeopnopaa
open Go.RowKit

theorem wpList_push2 {P : Program} (w : World) {ops : Array Oper} {rest : List Oper} {o : Oper} {a : Act} {Q : Exit → Act → World → Prop} (hgd : o.guard = none) (s x : Operand) (t e : TypeId)
    (ho : o.op = .call { callee := .builtin .append, args := #[s, x], argTypes := #[t, t] }) (ht : P.underlying t = some (.slice e))
    (z : Value) (bytes : Nat) (hinfo : (P.info? e).map (fun i => (i.zero, i.size, i.bytes)) = some (some z, 1, bytes)) (hz : z.cells.size = 1)
    (base : Nat) (v : Value) (n : Nat) (vs : List Value) (hs : a.eval s = v) (hown : w.ownsRow base e 1 v n vs) (u : Value) (hu : u.oneCell' = true)
    (hx : a.eval x = .slice (some ⟨w.heap.size, 0, none⟩) 1 1) (hn : (n + 1) * bytes ≤ 140737488355328) (hm : n + 1 ≤ 9223372036854775807) (hb : base ≤ w.heap.size)
    (h : ∀ A' c' w', w'.ownsRow base e 1 (.slice A' (n + 1) c') (n + 1) (vs ++ [u]) → (w.alloc (.cells #[u] e)).grownBy w' v.ownBlock → wpList P ops Q rest (a.put o.dst (.slice A' (n + 1) c')) w') :
    wpList P ops Q (o :: rest) a (w.alloc (.cells #[u] e)) := by
  obtain ⟨i, hi, hzz⟩ := Option.map_eq_some_iff.1 hinfo
  simp only [Prod.mk.injEq] at hzz
  obtain ⟨h1, h2, h3⟩ := hzz
  refine wpList_append_own _ hgd s x t ho base e i z 1 bytes ht hi h1 h2 h3 hz (by decide) v n vs hs (hown.alloc _) ⟨w.heap.size, 0, none⟩ 1 1 [u] hx rfl ?_ ?_ (by unfold maxLen; omega) hn (by simp; omega) ?_
  · intro j y hj
    match j, hj with
    | 0, hj =>
      simp at hj
      subst hj
      simp [Addr.add]
  · intro y hy
    simp at hy
    subst hy
    exact hu
  · intro v' w' hown' hg _
    rcases hown'.2 with ⟨_, h0⟩ | ⟨g, cap, cur, rfl, rest⟩
    · omega
    · exact h _ _ _ hown' hg

/-- Rows are kept when a row of another element type is written. -/
theorem ownSS_other {w w' : World} {lo hi e n c b e2 n2 : Nat} {A : Option Addr} {xss : List (List Int)} {v2 : Value} {vs2 : List Value} (h : OwnSS w lo hi e A n c xss) (h2 : w.ownsRow b e2 1 v2 n2 vs2) (hg : w.grownBy w' v2.ownBlock) (h3 : e ≠ e2) (h4 : 2 ≠ e2) :
    OwnSS w' lo hi e A n c xss := by
  obtain ⟨vals, a1, hp, a2, a3, a4⟩ := h
  exact ⟨vals, a1.kept hg (own_ne a1 h2 h3), hp, a2, fun j xs hj => by obtain ⟨A', c', b1, b2, b3⟩ := a3 j xs hj; exact ⟨A', c', b1, b2.kept hg (own_ne b2 h2 h4), b3⟩, a4⟩
theorem own_lt {w w' : World} {base e n c B lo hi : Nat} {A : Option Addr} {vs : List Value} (h : w.ownsRow base e 1 (.slice A n c) n vs) (hp : InB (.slice A n c) lo hi) (hb : Below B w w') (hB : hi ≤ B) : w'.ownsRow base e 1 (.slice A n c) n vs := by
  refine ⟨h.1, ?_⟩
  rcases h.2 with hn | ⟨g, cap, cur, hv, hbb, hg, rest⟩
  · exact .inl hn
  · refine .inr ⟨g, cap, cur, hv, hbb, ?_, rest⟩
    have := hp g (by rw [hv]; rfl)
    rw [hb.block g (by omega)]
    exact hg
theorem ownSS_lt {w w' : World} {lo hi e n c B : Nat} {A : Option Addr} {xss : List (List Int)} (h : OwnSS w lo hi e A n c xss) (hb : Below B w w') (hB : hi ≤ B) : OwnSS w' lo hi e A n c xss := by
  obtain ⟨vals, a1, hp, a2, a3, a4⟩ := h
  exact ⟨vals, own_lt a1 hp hb hB, hp, a2, fun j xs hj => by obtain ⟨A', c', b1, b2, b3⟩ := a3 j xs hj; exact ⟨A', c', b1, own_lt b2 b3 hb hB, b3⟩, a4⟩
/-- A row that the call owns is pushed onto rows. -/
theorem ownSS_push {w w' : World} {lo hi e n c c1 c2 bc : Nat} {A A1 A2 : Option Addr} {xss : List (List Int)} {xs : List Int} {o : Obj} (h : OwnSS w lo hi e A n c xss) (he : e ≠ 2) (own : w.ownsRow bc 2 1 (.slice A1 xs.length c1) xs.length (ints xs)) (hbc : hi ≤ bc) (hlo : lo ≤ bc)
    (hnew : ∀ vals, w.ownsRow lo e 1 (.slice A n c) n vals → w'.ownsRow lo e 1 (.slice A2 (n + 1) c2) (n + 1) (vals ++ [.slice A1 xs.length c1])) (hg : (w.alloc o).grownBy w' (Value.slice A n c).ownBlock) :
    OwnSS w' lo w'.heap.size e A2 (n + 1) c2 (xss ++ [xs]) := by
  obtain ⟨vals, a1, hp, a2, a3, a4⟩ := h
  have hn := hnew vals a1
  have hl : vals.length = n := by have := a1.1; omega
  have hws : w.heap.size ≤ w'.heap.size := Nat.le_trans (by simp) hg.size
  have hin := own_in own
  have hino := own_in hn
  have keep : ∀ {b m cc : Nat} {B : Option Addr} {vs : List Value}, w.ownsRow b 2 1 (.slice B m cc) m vs → w'.ownsRow b 2 1 (.slice B m cc) m vs := fun hh =>
    (hh.alloc o).kept hg (own_ne (hh.alloc o) (a1.alloc o) (fun e1 => he e1.symm))
  have hhi : InB (.slice A n c) lo w.heap.size := own_in a1
  refine ⟨_, hn, hino, by simp [a2], ?_, ?_⟩
  · intro j ys hj
    by_cases ej : j < n
    · rw [List.getElem?_append_left (by omega)] at hj
      obtain ⟨A', c', b1, b2, b3⟩ := a3 j ys hj
      refine ⟨A', c', by rw [List.getElem?_append_left (by omega)]; exact b1, keep b2, fun k hk => ?_⟩
      have h1 := b3 k hk
      have h2 := b2.lt k hk
      omega
    · have hjn : j = n := by have := (List.getElem?_eq_some_iff.1 hj).1; simp at this; omega
      subst hjn
      rw [List.getElem?_append_right (by omega)] at hj
      simp [a2] at hj
      subst hj
      refine ⟨A1, c1, by rw [List.getElem?_append_right (by omega)]; simp [hl], own_base (keep own) hlo, fun k hk => ?_⟩
      have h1 := hin k hk
      omega
  · have old : ∀ (i : Nat) (u : Value), i < n → vals[i]? = some u → ∀ g, u.ownBlock = some g → g < hi := by
      intro i u hi' hu g hg'
      obtain ⟨A', c', b1, _, b3⟩ := a3 i xss[i] (List.getElem?_eq_getElem (by omega))
      rw [hu] at b1
      injection b1 with b1
      subst b1
      exact (b3 g hg').2
    intro i j u v hij hu hv g hgu
    by_cases hi' : i < n
    · rw [List.getElem?_append_left (by omega)] at hu
      by_cases hj : j < n
      · rw [List.getElem?_append_left (by omega)] at hv
        exact a4 i j u v hij hu hv g hgu
      · have hjn : j = n := by have := (List.getElem?_eq_some_iff.1 hv).1; simp at this; omega
        subst hjn
        rw [List.getElem?_append_right (by omega)] at hv
        simp [hl] at hv
        subst hv
        intro h2
        have h3 := hin g h2
        have h4 := old i u hi' hu g hgu
        omega
    · have hin' : i = n := by have := (List.getElem?_eq_some_iff.1 hu).1; simp at this; omega
      subst hin'
      rw [List.getElem?_append_right (by omega)] at hu
      simp [hl] at hu
      subst hu
      have hj : j < i := by have := (List.getElem?_eq_some_iff.1 hv).1; simp at this; omega
      rw [List.getElem?_append_left (by omega)] at hv
      intro h2
      have h3 := hin g hgu
      have h4 := old j v hj hv g h2
      omega

/-- The points that are passed from p on, until one comes that has been passed. -/
def trail (xs vis : List Int) : Nat → List Int → Int → List Int
  | 0, cur, _ => cur
  | f + 1, cur, p => if p ∈ vis ++ cur then cur else trail xs vis f (cur ++ [p]) (xs.getD p.toNat 0)
def cycTo (xs : List Int) (n : Nat) : Nat → List (List Int)
  | 0 => []
  | k + 1 => if (k : Int) ∈ (cycTo xs n k).flatten then cycTo xs n k else cycTo xs n k ++ [trail xs (cycTo xs n k).flatten (n - (cycTo xs n k).flatten.length) [] k]
def cycL (xs : List Int) : List (List Int) := cycTo xs xs.length xs.length
/-- Points that are each passed once. -/
def Passed (n : Nat) (l : List Int) : Prop := (∀ x ∈ l, 0 ≤ x ∧ x < (n : Int)) ∧ l.Nodup
theorem passed_len {n : Nat} {l : List Int} (h : Passed n l) : l.length ≤ n := by
  have hs : l ⊆ (List.range n).map fun (j : Nat) => (j : Int) := by
    intro x hx
    have := h.1 x hx
    exact List.mem_map.2 ⟨x.toNat, List.mem_range.2 (by omega), by omega⟩
  have := List.Nodup.length_le_of_subset h.2 hs
  simpa using this
theorem passed_snoc {n p : Nat} {l : List Int} (h : Passed n l) (hp : p < n) (hn : ¬ (p : Int) ∈ l) : Passed n (l ++ [(p : Int)]) := by
  refine ⟨fun x hx => ?_, ?_⟩
  · rcases List.mem_append.1 hx with h1 | h1
    · exact h.1 x h1
    · simp at h1; omega
  · rw [List.nodup_append]
    refine ⟨h.2, by simp, fun a ha b hb => ?_⟩
    simp at hb
    subst hb
    rintro rfl
    exact hn ha
theorem trail_in {xs vis cur : List Int} {f : Nat} {p : Int} (h : p ∈ vis ++ cur) : trail xs vis f cur p = cur := by
  cases f with
  | zero => rfl
  | succ f => rw [trail, if_pos h]
theorem trail_out {xs vis cur : List Int} {n p q : Nat} (hps : Passed n (vis ++ cur)) (hp : p < n) (h : ¬ (p : Int) ∈ vis ++ cur) (hx : xs[p]? = some (q : Int)) :
    trail xs vis (n - (vis ++ cur).length) cur p = trail xs vis (n - (vis ++ (cur ++ [(p : Int)])).length) (cur ++ [(p : Int)]) q := by
  have hl := passed_len (passed_snoc hps hp h)
  have e : n - (vis ++ cur).length = (n - (vis ++ (cur ++ [(p : Int)])).length) + 1 := by simp at hl ⊢; omega
  rw [e, trail, if_neg h]
  simp [hx]
theorem trail_passed {xs vis : List Int} {n : Nat} (hxn : xs.length = n) (hok : okP xs = true) : ∀ (f : Nat) (cur : List Int) (p : Nat), p < n → Passed n (vis ++ cur) → Passed n (vis ++ trail xs vis f cur p)
  | 0, cur, p, _, h => h
  | f + 1, cur, p, hp, h => by
    unfold trail
    split
    · exact h
    · rename_i hn
      have hx : xs[p]? = some xs[p] := List.getElem?_eq_getElem (by omega)
      obtain ⟨q, hq, hlt⟩ := okP_at hok hxn hx
      have e : xs.getD (p : Int).toNat 0 = (q : Int) := by simp [List.getD, show p < xs.length by omega]; exact hq
      rw [e]
      exact trail_passed hxn hok f _ q hlt (by rw [← List.append_assoc]; exact passed_snoc h hp hn)
theorem cycTo_passed {xs : List Int} {n : Nat} (hxn : xs.length = n) (hok : okP xs = true) : ∀ k, k ≤ n → Passed n (cycTo xs n k).flatten
  | 0, _ => ⟨by simp [cycTo], by simp [cycTo]⟩
  | k + 1, hk => by
    have ih := cycTo_passed hxn hok k (by omega)
    unfold cycTo
    split
    · exact ih
    · rw [List.flatten_append]
      simpa using trail_passed hxn hok (n - (cycTo xs n k).flatten.length) [] k (by omega) (by simpa using ih)
theorem cycTo_in {xs : List Int} {n k : Nat} (h : (k : Int) ∈ (cycTo xs n k).flatten) : cycTo xs n (k + 1) = cycTo xs n k := by rw [cycTo, if_pos h]
theorem cycTo_out {xs : List Int} {n k : Nat} (h : ¬ (k : Int) ∈ (cycTo xs n k).flatten) : cycTo xs n (k + 1) = cycTo xs n k ++ [trail xs (cycTo xs n k).flatten (n - (cycTo xs n k).flatten.length) [] k] := by rw [cycTo, if_neg h]
theorem cycTo_le {xs : List Int} {n : Nat} : ∀ k, (cycTo xs n k).length ≤ k
  | 0 => by simp [cycTo]
  | k + 1 => by
    have ih := cycTo_le (xs := xs) (n := n) k
    unfold cycTo
    split
    · omega
    · simp; omega
end Go.Proofs.Ytmgoaabeopnopaa
/- What holds at the two loops that find the cycles: facts outside the walks. -/
namespace Go.Proofs.Ytmgoaabeopnopaa
open Go.RowKit

structure COut (w wr : World) (e g0 n k : Nat) (xs : List Int) (A : Option Addr) (m c : Nat) : Prop where
  rows : OwnSS wr w.heap.size wr.heap.size e A m c (cycTo xs n k)
  seen : wr.ownsRow w.heap.size 4 1 (.slice (some ⟨g0, 0, none⟩) n n) n (seenL n (cycTo xs n k).flatten)
  bel : Below w.heap.size w wr
structure CIn (w wi : World) (e g0 n k bc : Nat) (xs : List Int) (A : Option Addr) (m c : Nat) (cur : List Int) (p : Nat) (A' : Option Addr) (mc c' : Nat) : Prop where
  rows : OwnSS wi w.heap.size bc e A m c (cycTo xs n k)
  seen : wi.ownsRow w.heap.size 4 1 (.slice (some ⟨g0, 0, none⟩) n n) n (seenL n ((cycTo xs n k).flatten ++ cur))
  g0b : g0 < bc
  own : wi.ownsRow bc 2 1 (.slice A' mc c') mc (ints cur)
  ps : Passed n ((cycTo xs n k).flatten ++ cur)
  pn : p < n
  tr : trail xs (cycTo xs n k).flatten (n - ((cycTo xs n k).flatten ++ cur).length) cur p = trail xs (cycTo xs n k).flatten (n - (cycTo xs n k).flatten.length) [] k
  bel : Below w.heap.size w wi
  sz : bc ≤ wi.heap.size

section
variable {w wr wi w1 : World} {e g0 n k bc m c p q mc c' : Nat} {xs cur : List Int} {A A' : Option Addr}
theorem cin_start (h : COut w wr e g0 n k xs A m c) (hxn : xs.length = n) (hok : okP xs = true) (hk : k < n)
    (hw : (wi = wr ∧ A' = none ∧ c' = 0) ∨ (wi = wr.alloc (.cells #[] 2) ∧ A' = some ⟨wr.heap.size, 0, none⟩ ∧ c' = 0)) : CIn w wi e g0 n k wr.heap.size xs A m c [] k A' 0 c' := by
  have hp := cycTo_passed hxn hok k (by omega)
  have hg := (h.seen.lt g0 rfl).2
  rcases hw with ⟨rfl, rfl, rfl⟩ | ⟨rfl, rfl, rfl⟩
  · exact ⟨h.rows, by simpa using h.seen, hg, World.ownsRow_nil _ _ _ _, by simpa using hp, hk, by simp, h.bel, Nat.le_refl _⟩
  · have hb : Below wr.heap.size wr (wr.alloc (.cells #[] 2)) := (Below.refl _ _).alloc (Nat.le_refl _) _
    exact ⟨ownSS_below h.rows hb (Nat.le_refl _), by simpa using own_below h.seen hb (Nat.le_refl _), hg,
      by simpa using World.ownsRow_made (base := wr.heap.size) (e := 2) (size := 1) wr #[] 0 (Nat.le_refl _) (Nat.zero_le _) (by simp), by simpa using hp, hk, by simp, h.bel.alloc h.bel.size _, by simp⟩
theorem seen_start (w : World) (n : Nat) (hn : n ≤ 9223372036854775807) : (w.alloc (.cells (madeCells #[.bool false] n) 4)).ownsRow w.heap.size 4 1 (.slice (some ⟨w.heap.size, 0, none⟩) n n) n (seenL n []) := by
  rw [seenL_nil]
  exact make_own w (.bool false) n 4 (by unfold maxLen; omega)
theorem cout_start (w : World) (n : Nat) (xs : List Int) (hn : n ≤ 9223372036854775807) :
    COut w ((w.alloc (.cells #[] 36)).alloc (.cells (madeCells #[.bool false] n) 4)) 36 (w.heap.size + 1) n 0 xs (some ⟨w.heap.size, 0, none⟩) 0 0 := by
  have h1 := World.ownsRow_made (base := w.heap.size) (e := 36) (size := 1) w #[] 0 (Nat.le_refl _) (Nat.zero_le _) (by simp)
  have h2 := seen_start (w.alloc (.cells #[] 36)) n hn
  have hs : (w.alloc (Obj.cells #[] 36)).heap.size = w.heap.size + 1 := by simp
  rw [hs] at h2
  exact ⟨⟨[], h1.alloc _, fun k hk => by simp [Value.ownBlock] at hk; subst hk; simp; omega, rfl, fun j xs h => by simp [cycTo] at h, fun i j u v _ h => by simp at h⟩, by simpa [cycTo] using own_base h2 (by omega),
    ((Below.refl _ _).alloc (Nat.le_refl _) _).alloc (by simp) _⟩
theorem cout_start0 (w : World) (n : Nat) (xs : List Int) (hn : n ≤ 9223372036854775807) :
    COut w (w.alloc (.cells (madeCells #[.bool false] n) 4)) 127 w.heap.size n 0 xs none 0 0 :=
  ⟨ownSS_nil _ _ _ _, by simpa [cycTo] using seen_start w n hn, (Below.refl _ _).alloc (Nat.le_refl _) _⟩
/-- The mark of a new point. -/
theorem cin_mark (h : CIn w wi e g0 n k bc xs A m c cur p A' mc c') : (wi.setCell ⟨g0, p, none⟩ (.bool true)).ownsRow bc 2 1 (.slice A' mc c') mc (ints cur) :=
  h.own.kept (h.seen.stored p (.bool true)).2 (own_ne h.own h.seen (by decide))
theorem cin_step {A3 : Option Addr} {c3 : Nat} (h : CIn w wi e g0 n k bc xs A m c cur p A' mc c') (he : e ≠ 4) (hn : ¬ (p : Int) ∈ (cycTo xs n k).flatten ++ cur) (hx : xs[p]? = some (q : Int)) (hq : q < n)
    (own : w1.ownsRow bc 2 1 (.slice A3 (mc + 1) c3) (mc + 1) (ints cur ++ [.int .i64 p])) (hb : Below bc (wi.setCell ⟨g0, p, none⟩ (.bool true)) w1) :
    CIn w w1 e g0 n k bc xs A m c (cur ++ [(p : Int)]) q A3 (mc + 1) c3 := by
  have hst := h.seen.stored p (.bool true)
  have hlo : w.heap.size ≤ g0 := (h.seen.lt g0 rfl).1
  have hin : InB (.slice (some ⟨g0, 0, none⟩) n n) w.heap.size bc := fun k hk => by simp [Value.ownBlock] at hk; have := h.g0b; omega
  have hr := ownSS_other h.rows h.seen hst.2 he (by decide)
  have hsz := hb.size
  have hsz2 : (wi.setCell ⟨g0, p, none⟩ (.bool true)).heap.size = wi.heap.size := by simp
  have hg0 := h.g0b
  have hsz3 := h.sz
  refine ⟨ownSS_lt hr hb (Nat.le_refl _), ?_, h.g0b, by simpa using own, ?_, hq, ?_, ?_, by omega⟩
  · have h1 := own_lt hst.1 hin hb (Nat.le_refl _)
    rwa [seenL_set, List.append_assoc] at h1
  · rw [← List.append_assoc]; exact passed_snoc h.ps h.pn hn
  · rw [← trail_out h.ps h.pn hn hx]; exact h.tr
  · exact (h.bel.setCell hlo _).trans (hb.mono (by omega))
theorem cin_len (h : CIn w wi e g0 n k bc xs A m c cur p A' mc c') (hn : ¬ (p : Int) ∈ (cycTo xs n k).flatten ++ cur) : ((cycTo xs n k).flatten ++ cur).length < n := by
  have := passed_len (passed_snoc h.ps h.pn hn)
  simp at this ⊢
  omega
theorem cin_cur (h : CIn w wi e g0 n k bc xs A m c cur p A' mc c') : mc = cur.length ∧ mc ≤ n := by
  have h1 := h.own.1
  have h2 := passed_len h.ps
  simp at h1 h2
  omega
theorem cin_done {w4 : World} {o : Obj} {A2 : Option Addr} {c2 : Nat} (h : CIn w wi e g0 n k bc xs A m c cur p A' mc c') (he : e ≠ 2) (heb : e ≠ 4) (hk : ¬ (k : Int) ∈ (cycTo xs n k).flatten) (hin : (p : Int) ∈ (cycTo xs n k).flatten ++ cur)
    (hnew : ∀ vals, wi.ownsRow w.heap.size e 1 (.slice A m c) m vals → w4.ownsRow w.heap.size e 1 (.slice A2 (m + 1) c2) (m + 1) (vals ++ [.slice A' mc c'])) (hg : (wi.alloc o).grownBy w4 (Value.slice A m c).ownBlock) :
    COut w w4 e g0 n (k + 1) xs A2 (m + 1) c2 := by
  have ht := h.tr
  rw [trail_in hin] at ht
  have hcur := (cin_cur h).1
  have hlo : w.heap.size ≤ bc := by have := (h.seen.lt g0 rfl).1; have := h.g0b; omega
  have ho := h.own
  rw [hcur] at ho hnew
  obtain ⟨vals, a1, _⟩ := h.rows
  have hpush := ownSS_push h.rows he ho (Nat.le_refl _) hlo hnew hg
  have hc : cycTo xs n (k + 1) = cycTo xs n k ++ [cur] := by rw [cycTo_out hk, ← ht]
  refine ⟨by rw [hc]; exact hpush, ?_, ?_⟩
  · rw [hc, List.flatten_append]
    simpa using (h.seen.alloc o).kept hg (own_ne (h.seen.alloc o) (a1.alloc o) (fun e1 => heb e1.symm))
  · have hB := h.bel.size
    exact (h.bel.alloc hB o).grown hg (by simp; omega) fun b hb => (a1.lt b hb).1
theorem trail_le (xs vis : List Int) : ∀ (f : Nat) (cur : List Int) (p : Int), cur.length ≤ (trail xs vis f cur p).length
  | 0, cur, p => Nat.le_refl _
  | f + 1, cur, p => by
    unfold trail
    split
    · exact Nat.le_refl _
    · exact Nat.le_trans (by simp) (trail_le xs vis f _ _)
theorem cin_pos (h : CIn w wi e g0 n k bc xs A m c cur p A' mc c') (hxn : xs.length = n) (hok : okP xs = true) (hkn : k < n) (hk : ¬ (k : Int) ∈ (cycTo xs n k).flatten) (hin : (p : Int) ∈ (cycTo xs n k).flatten ++ cur) : 0 < mc := by
  have ht := h.tr
  rw [trail_in hin] at ht
  have hp := cycTo_passed hxn hok k (by omega)
  have hx : xs[k]? = some xs[k] := List.getElem?_eq_getElem (by omega)
  obtain ⟨q, hq, _⟩ := okP_at hok hxn hx
  have h2 := trail_out (xs := xs) (vis := (cycTo xs n k).flatten) (cur := []) (n := n) (p := k) (q := q) (by simpa using hp) hkn (by simpa using hk) (by rw [hx, hq])
  have h3 := trail_le xs (cycTo xs n k).flatten (n - ((cycTo xs n k).flatten ++ ([] ++ [(k : Int)])).length) ([] ++ [(k : Int)]) q
  rw [← h2] at h3
  simp only [List.append_nil] at h3
  rw [← ht] at h3
  have := (cin_cur h).1
  simp at h3
  omega
theorem cout_skip (h : COut w wr e g0 n k xs A m c) (hk : (k : Int) ∈ (cycTo xs n k).flatten) : COut w wr e g0 n (k + 1) xs A m c := by
  obtain ⟨h1, h2, h3⟩ := h
  exact ⟨by rw [cycTo_in hk]; exact h1, by rw [cycTo_in hk]; exact h2, h3⟩
theorem cout_len (h : COut w wr e g0 n k xs A m c) : m = (cycTo xs n k).length ∧ m ≤ k := by
  have h1 : (cycTo xs n k).length = m := h.rows.choose_spec.2.2.1
  have h2 := cycTo_le (xs := xs) (n := n) k
  omega
theorem cout_rows (h : COut w wr e g0 n k xs A m c) : ∃ vals, wr.ownsRow w.heap.size e 1 (.slice A m c) m vals := ⟨_, h.rows.choose_spec.1⟩
theorem cin_rows (h : CIn w wi e g0 n k bc xs A m c cur p A' mc c') : ∃ vals, wi.ownsRow w.heap.size e 1 (.slice A m c) m vals := ⟨_, h.rows.choose_spec.1⟩
end
end Go.Proofs.Ytmgoaabeopnopaa
/- Cycles close, and the power of a permutation along its cycles; plain facts, no program. -/
namespace Go.Proofs.Ytmgoaabeopnopaa

def fz (xs : List Int) (x : Int) : Int := xs.getD x.toNat 0
theorem fz_at {xs : List Int} {p : Nat} {x : Int} (h : xs[p]? = some x) : fz xs (p : Int) = x := by simp [fz, h]
theorem fz_in {xs : List Int} {n : Nat} (hxn : xs.length = n) (hok : okP xs = true) {x : Int} (h0 : 0 ≤ x) (h1 : x < (n : Int)) : 0 ≤ fz xs x ∧ fz xs x < (n : Int) := by
  obtain ⟨p, rfl⟩ := Int.eq_ofNat_of_zero_le h0
  have hx : xs[p]? = some xs[p] := List.getElem?_eq_getElem (by omega)
  obtain ⟨q, hq, hlt⟩ := okP_at hok hxn hx
  rw [fz_at hx, hq]
  omega
theorem fz_inj {xs : List Int} {n : Nat} (hxn : xs.length = n) (hok : okP xs = true) {x y : Int} (h0 : 0 ≤ x) (h1 : x < (n : Int)) (h2 : 0 ≤ y) (h3 : y < (n : Int)) (h : fz xs x = fz xs y) : x = y := by
  obtain ⟨p, rfl⟩ := Int.eq_ofNat_of_zero_le h0
  obtain ⟨q, rfl⟩ := Int.eq_ofNat_of_zero_le h2
  have hp : p < xs.length := by omega
  have hq : q < xs.length := by omega
  rw [fz_at (List.getElem?_eq_getElem hp), fz_at (List.getElem?_eq_getElem hq)] at h
  have hnd := (of_decide_eq_true hok).2.2
  have : p = q := by
    rcases Nat.lt_trichotomy p q with hl | he | hl
    · exact absurd h (List.pairwise_iff_getElem.1 hnd p q hp hq hl)
    · exact he
    · exact absurd h.symm (List.pairwise_iff_getElem.1 hnd q p hq hp hl)
  omega
/-- Each element leads to the next one, the last one to p. -/
def Chain (xs cur : List Int) (p : Int) : Prop := ∀ (i : Nat) (x : Int), cur[i]? = some x → (cur ++ [p])[i + 1]? = some (fz xs x)
theorem chain_nil (xs : List Int) (p : Int) : Chain xs [] p := fun i x h => by simp at h
theorem chain_snoc {xs cur : List Int} {p : Int} (h : Chain xs cur p) : Chain xs (cur ++ [p]) (fz xs p) := by
  intro i x hx
  by_cases hi : i < cur.length
  · rw [List.getElem?_append_left hi] at hx
    have := h i x hx
    rw [List.getElem?_append_left (by simp; omega)]
    exact this
  · have hl : i = cur.length := by have := (List.getElem?_eq_some_iff.1 hx).1; simp at this; omega
    subst hl
    simp at hx
    subst hx
    simp
theorem trail_end {xs vis : List Int} {n : Nat} (hxn : xs.length = n) (hok : okP xs = true) : ∀ (f : Nat) (cur : List Int) (p : Nat), p < n → Passed n (vis ++ cur) → f = n - (vis ++ cur).length → Chain xs cur p →
    ∃ (T : List Int) (q : Nat), trail xs vis f cur p = T ∧ q < n ∧ (q : Int) ∈ vis ++ T ∧ Chain xs T q ∧ Passed n (vis ++ T) ∧ ∃ R, T = cur ++ R
  | 0, cur, p, hp, hps, hf, hc => by
    refine ⟨cur, p, rfl, hp, ?_, hc, hps, [], by simp⟩
    by_cases h : (p : Int) ∈ vis ++ cur
    · exact h
    · have := passed_len (passed_snoc hps hp h)
      simp at this hf
      omega
  | f + 1, cur, p, hp, hps, hf, hc => by
    unfold trail
    by_cases h : (p : Int) ∈ vis ++ cur
    · rw [if_pos h]
      exact ⟨cur, p, rfl, hp, h, hc, hps, [], by simp⟩
    · rw [if_neg h]
      have hx : xs[p]? = some xs[p] := List.getElem?_eq_getElem (by omega)
      obtain ⟨q, hq, hlt⟩ := okP_at hok hxn hx
      have e : xs.getD (p : Int).toNat 0 = (q : Int) := by simp [List.getD, show p < xs.length by omega]; exact hq
      have e2 : fz xs (p : Int) = (q : Int) := by rw [fz_at hx, hq]
      have hps2 := passed_snoc hps hp h
      rw [List.append_assoc] at hps2
      have hl := passed_len hps2
      rw [e]
      obtain ⟨T, r, h1, h2, h3, h4, h5, R, h6⟩ := trail_end hxn hok f (cur ++ [(p : Int)]) q hlt hps2 (by simp at hl hf ⊢; omega) (by rw [← e2]; exact chain_snoc hc)
      exact ⟨T, r, h1, h2, h3, h4, h5, (p : Int) :: R, by rw [h6]; simp⟩
/-- A list that the permutation leads round. -/
def CycOk (xs c : List Int) : Prop := ∀ (i : Nat) (x : Int), c[i]? = some x → c[(i + 1) % c.length]? = some (fz xs x)
/-- Each element is what another one is led to. -/
def Back (xs vis : List Int) : Prop := ∀ x ∈ vis, ∃ y ∈ vis, fz xs y = x
theorem chain_closes {xs vis T : List Int} {n q : Nat} (hxn : xs.length = n) (hok : okP xs = true) (hb : Back xs vis) (hne : T ≠ []) (hin : (q : Int) ∈ vis ++ T) (hc : Chain xs T q) (hps : Passed n (vis ++ T)) : CycOk xs T ∧ Back xs (vis ++ T) := by
  have hpos : 0 < T.length := List.length_pos_iff.2 hne
  obtain ⟨z, hz⟩ : ∃ z, T[T.length - 1]? = some z := ⟨_, List.getElem?_eq_getElem (by omega)⟩
  have hzq : fz xs z = (q : Int) := by
    have h := hc _ _ hz
    rw [show T.length - 1 + 1 = T.length by omega] at h
    simpa using h.symm
  have hzT : z ∈ T := List.mem_of_getElem? hz
  have hnd := List.nodup_append.1 hps.2
  have rng : ∀ x ∈ vis ++ T, 0 ≤ x ∧ x < (n : Int) := hps.1
  have hzr := rng z (List.mem_append.2 (.inr hzT))
  have hq0 : T[0]? = some (q : Int) := by
    rcases List.mem_append.1 hin with h | h
    · obtain ⟨y, hy, hyq⟩ := hb _ h
      have hyr := rng y (List.mem_append.2 (.inl hy))
      have : y = z := fz_inj hxn hok hyr.1 hyr.2 hzr.1 hzr.2 (by rw [hyq, hzq])
      exact absurd this (hnd.2.2 y hy z hzT)
    · obtain ⟨j, hj, hjq⟩ := List.mem_iff_getElem.1 h
      have hjq' : T[j]? = some (q : Int) := by rw [List.getElem?_eq_getElem hj, hjq]
      cases j with
      | zero => exact hjq'
      | succ j =>
        obtain ⟨y, hy⟩ : ∃ y, T[j]? = some y := ⟨_, List.getElem?_eq_getElem (by omega)⟩
        have h1 := hc _ _ hy
        rw [List.getElem?_append_left (by omega), hjq'] at h1
        injection h1 with h1
        have hyr := rng y (List.mem_append.2 (.inr (List.mem_of_getElem? hy)))
        have e : y = z := fz_inj hxn hok hyr.1 hyr.2 hzr.1 hzr.2 (by rw [← h1, hzq])
        have hjl : j < T.length - 1 := by omega
        have e1 : T[j] = y := (List.getElem?_eq_some_iff.1 hy).2
        have e2 : T[T.length - 1] = z := (List.getElem?_eq_some_iff.1 hz).2
        exact absurd (by rw [e1, e2, e] : T[j] = T[T.length - 1]) (List.pairwise_iff_getElem.1 hnd.2.1 j (T.length - 1) (by omega) (by omega) hjl)
  have hcyc : CycOk xs T := by
    intro i x hx
    have hi := (List.getElem?_eq_some_iff.1 hx).1
    have h := hc i x hx
    by_cases hl : i + 1 < T.length
    · rw [Nat.mod_eq_of_lt hl]
      rwa [List.getElem?_append_left hl] at h
    · have e : i + 1 = T.length := by omega
      rw [e, Nat.mod_self, hq0]
      rw [e] at h
      simpa using h
  refine ⟨hcyc, fun x hx => ?_⟩
  rcases List.mem_append.1 hx with h | h
  · obtain ⟨y, hy, hyx⟩ := hb x h
    exact ⟨y, List.mem_append.2 (.inl hy), hyx⟩
  · obtain ⟨j, hj, hjx⟩ := List.mem_iff_getElem.1 h
    cases j with
    | zero =>
      refine ⟨z, List.mem_append.2 (.inr hzT), ?_⟩
      rw [hzq, ← hjx]
      have := (List.getElem?_eq_some_iff.1 hq0).2
      exact this.symm
    | succ j =>
      obtain ⟨y, hy⟩ : ∃ y, T[j]? = some y := ⟨_, List.getElem?_eq_getElem (by omega)⟩
      refine ⟨y, List.mem_append.2 (.inr (List.mem_of_getElem? hy)), ?_⟩
      have h1 := hcyc j y hy
      rw [Nat.mod_eq_of_lt hj, List.getElem?_eq_getElem hj, hjx] at h1
      injection h1 with h1
      exact h1.symm
theorem cyc_all {xs : List Int} {n : Nat} (hxn : xs.length = n) (hok : okP xs = true) : ∀ k, k ≤ n → (∀ c ∈ cycTo xs n k, CycOk xs c) ∧ Back xs (cycTo xs n k).flatten ∧ ∀ p : Nat, p < k → (p : Int) ∈ (cycTo xs n k).flatten
  | 0, _ => ⟨by simp [cycTo], by simp [cycTo, Back], fun p hp => absurd hp (by omega)⟩
  | k + 1, hk => by
    obtain ⟨ih1, ih2, ih3⟩ := cyc_all hxn hok k (by omega)
    by_cases h : (k : Int) ∈ (cycTo xs n k).flatten
    · rw [cycTo_in h]
      refine ⟨ih1, ih2, fun p hp => ?_⟩
      rcases Nat.lt_succ_iff_lt_or_eq.1 hp with h1 | rfl
      · exact ih3 p h1
      · exact h
    · have hps := cycTo_passed hxn hok k (by omega)
      obtain ⟨T, q, h1, h2, h3, h4, h5, R, h6⟩ := trail_end (vis := (cycTo xs n k).flatten) hxn hok (n - (cycTo xs n k).flatten.length) [] k (by omega) (by simpa using hps) (by simp) (chain_nil _ _)
      have hx : xs[k]? = some xs[k] := List.getElem?_eq_getElem (by omega)
      obtain ⟨q', hq', _⟩ := okP_at hok hxn hx
      have hto := trail_out (xs := xs) (vis := (cycTo xs n k).flatten) (cur := []) (n := n) (p := k) (q := q') (by simpa using hps) (by omega) (by simpa using h) (by rw [hx, hq'])
      simp only [List.append_nil, List.nil_append] at hto
      rw [h1] at hto
      obtain ⟨T2, q2, g1, g2, g3, g4, g5, R2, g6⟩ := trail_end (vis := (cycTo xs n k).flatten) hxn hok (n - ((cycTo xs n k).flatten ++ [(k : Int)]).length) [(k : Int)] q' (by have := okP_at hok hxn hx; obtain ⟨a, b, c⟩ := this; omega) (passed_snoc hps (by omega) h) rfl
        (by have := chain_snoc (chain_nil xs (k : Int)); rw [fz_at hx, hq'] at this; simpa using this)
      rw [g1] at hto
      have hkT : (k : Int) ∈ T := by rw [hto, g6]; simp
      have hne : T ≠ [] := fun e => by rw [e] at hkT; simp at hkT
      have hcl := chain_closes hxn hok ih2 hne h3 h4 h5
      rw [cycTo_out h, h1]
      refine ⟨fun c hc => ?_, ?_, fun p hp => ?_⟩
      · rcases List.mem_append.1 hc with h7 | h7
        · exact ih1 c h7
        · rw [List.mem_singleton.1 h7]; exact hcl.1
      · rw [List.flatten_append]; simpa using hcl.2
      · rw [List.flatten_append]
        rcases Nat.lt_succ_iff_lt_or_eq.1 hp with h7 | rfl
        · exact List.mem_append.2 (.inl (ih3 p h7))
        · exact List.mem_append.2 (.inr (by simpa using hkT))
end Go.Proofs.Ytmgoaabeopnopaa
/- Sorted lists of numbers; plain facts. -/
namespace Go.Proofs.Ytmgoaabeopnopaa
open Go.RowKit

def sortL (xs : List Int) : List Int := xs.mergeSort fun x y => decide (x ≤ y)
theorem sortL_perm (xs : List Int) : (sortL xs).Perm xs := List.mergeSort_perm _ _
theorem sortL_length (xs : List Int) : (sortL xs).length = xs.length := (sortL_perm xs).length_eq
theorem sortL_sorted (xs : List Int) : (sortL xs).Pairwise (· ≤ ·) := by
  have h := List.pairwise_mergeSort (le := fun x y : Int => decide (x ≤ y)) (by intro a b c h1 h2; simp at *; omega) (by intro a b; simp; omega) xs
  exact h.imp (by intro _ _ h; simpa using h)
theorem sortL_eq {xs ys : List Int} (hp : ys.Perm xs) (hs : ys.Pairwise (· ≤ ·)) : ys = sortL xs :=
  List.Perm.eq_of_pairwise (fun _ _ _ _ h1 h2 => Int.le_antisymm h1 h2) hs (sortL_sorted xs) (hp.trans (sortL_perm xs).symm)

/-- One place of the insertion: the list is P ++ x :: (S ++ R); P ++ S is sorted; x is not greater than what stands in S. -/
structure Ins (L xs : List Int) (i k : Nat) (P : List Int) (x : Int) (S R : List Int) : Prop where
  eq : L = P ++ x :: (S ++ R)
  perm : L.Perm xs
  lenP : P.length = k
  lenS : S.length + k = i
  srt : (P ++ S).Pairwise (· ≤ ·)
  low : ∀ s ∈ S, x ≤ s
theorem ins_start {L xs : List Int} {i : Nat} (hp : L.Perm xs) (hi : i < L.length) (hs : (L.take i).Pairwise (· ≤ ·)) : ∃ x R, Ins L xs i i (L.take i) x [] R :=
  ⟨L[i], L.drop (i + 1), by rw [List.nil_append, ← List.drop_eq_getElem_cons hi, List.take_append_drop], hp, by simp; omega, by simp, by simpa using hs, by simp⟩
theorem ins_at {L xs : List Int} {i k : Nat} {P S R : List Int} {x : Int} (h : Ins L xs i k P x S R) : L[k]? = some x := by
  rw [h.eq, List.getElem?_append_right (by have := h.lenP; omega), h.lenP, Nat.sub_self]
  rfl
theorem ins_done {L xs : List Int} {i k : Nat} {P S R : List Int} {x : Int} (h : Ins L xs i k P x S R) (hle : ∀ y, P.getLast? = some y → y ≤ x) : (L.take (i + 1)).Pairwise (· ≤ ·) ∧ L.Perm xs := by
  refine ⟨?_, h.perm⟩
  have e : L.take (i + 1) = P ++ x :: S := by
    have h1 : P ++ x :: (S ++ R) = (P ++ x :: S) ++ R := by simp
    rw [h.eq, h1, List.take_left' (by have := h.lenP; have := h.lenS; simp; omega)]
  rw [e]
  have hs := List.pairwise_append.1 h.srt
  refine List.pairwise_append.2 ⟨hs.1, List.pairwise_cons.2 ⟨h.low, hs.2.1⟩, fun a ha b hb => ?_⟩
  have hax : a ≤ x := by
    rcases List.eq_nil_or_concat P with rfl | ⟨Q, y, rfl⟩
    · cases ha
    · have hy := hle y (by simp)
      have h2 := List.pairwise_append.1 (by simpa using hs.1)
      have ha' : a ∈ Q ∨ a = y := by simpa using ha
      rcases ha' with h3 | h3
      · have := h2.2.2 a h3 y (by simp)
        omega
      · omega
  rcases List.mem_cons.1 hb with rfl | h3
  · exact hax
  · have := h.low b h3
    omega
theorem ins_step {L xs : List Int} {i k : Nat} {P S R : List Int} {x y : Int} (h : Ins L xs i (k + 1) (P ++ [y]) x S R) (hlt : x < y) :
    Ins ((L.set (k + 1) y).set k x) xs i k P x (y :: S) R ∧ L[k]? = some y := by
  have hl : P.length = k := by have := h.lenP; simp at this; omega
  have e1 : L = P ++ y :: x :: (S ++ R) := by rw [h.eq]; simp
  have e2 : (L.set (k + 1) y).set k x = P ++ x :: (y :: S ++ R) := by
    rw [e1, List.set_append_right _ _ (by omega), List.set_append_right _ _ (by omega)]
    have : k + 1 - P.length = 1 := by omega
    have : k - P.length = 0 := by omega
    simp [*]
  have hs := List.pairwise_append.1 h.srt
  refine ⟨⟨e2, ?_, hl, by have := h.lenS; simp; omega, by simpa using h.srt, fun s hs' => ?_⟩, by rw [e1, List.getElem?_append_right (by omega)]; simp [hl]⟩
  · rw [e2]
    refine List.Perm.trans ?_ (e1 ▸ h.perm)
    exact List.Perm.append_left P (List.Perm.swap y x (S ++ R))
  · rcases List.mem_cons.1 hs' with rfl | h3
    · omega
    · exact h.low s h3
theorem ins_last {L xs : List Int} {i k : Nat} {P S R : List Int} {x : Int} (h : Ins L xs i (k + 1) P x S R) : ∃ Q y, P = Q ++ [y] ∧ L[k]? = some y := by
  rcases List.eq_nil_or_concat P with rfl | ⟨Q, y, hP⟩
  · have := h.lenP; simp at this
  · rw [List.concat_eq_append] at hP
    subst hP
    have hl : Q.length = k := by have := h.lenP; simp at this; omega
    refine ⟨Q, y, rfl, ?_⟩
    rw [h.eq, List.append_assoc, List.getElem?_append_right (by omega), hl, Nat.sub_self]
    rfl

theorem ins_move {L xs : List Int} {i k : Nat} {P S R : List Int} {x : Int} (h : Ins L xs i k P x S R) (hk : 1 ≤ k) :
    ∃ Q y, L[k - 1]? = some y ∧ (x < y → Ins ((L.set k y).set (k - 1) x) xs i (k - 1) Q x (y :: S) R) ∧ (¬ x < y → (L.take (i + 1)).Pairwise (· ≤ ·)) := by
  obtain ⟨j, rfl⟩ : ∃ j, k = j + 1 := ⟨k - 1, by omega⟩
  obtain ⟨Q, y, rfl, hy⟩ := ins_last h
  refine ⟨Q, y, hy, fun hlt => (ins_step h hlt).1, fun hge => (ins_done h ?_).1⟩
  intro z hz
  simp at hz
  omega
theorem ins_zero {L xs : List Int} {i : Nat} {P S R : List Int} {x : Int} (h : Ins L xs i 0 P x S R) : (L.take (i + 1)).Pairwise (· ≤ ·) := by
  have h0 : P = [] := List.eq_nil_of_length_eq_zero h.lenP
  refine (ins_done h ?_).1
  rw [h0]
  simp

end Go.Proofs.Ytmgoaabeopnopaa
namespace Go.Proofs.Ytmgoaabeopnopaa
open Go.RowKit

end Go.Proofs.Ytmgoaabeopnopaa
namespace Go.Proofs.Ytmgoaabeopnopaa
open Go.RowKit

theorem Try.infoP : (Try.prog.info? 127).map (fun i => (i.zero, i.size, i.bytes)) = some (some (.slice none 0 0), 1, 24) := by kernel_rfl

end Go.Proofs.Ytmgoaabeopnopaa
/- slices.Sort at []int64. -/
namespace Go.Proofs.Ytmgoaabeopnopaa
open Go.RowKit

end Go.Proofs.Ytmgoaabeopnopaa
namespace Go.Proofs.Ytmgoaabeopnopaa
open Go.RowKit

theorem _root_.Go.World.ownsRow.drewN' {w : World} {base e size n : Nat} {v : Value} {vs : List Value} (h : w.ownsRow base e size v n vs) (k : Nat) : (w.drewN k).ownsRow base e size v n vs := h
end Go.Proofs.Ytmgoaabeopnopaa
namespace Go.Proofs.Ytmgoaabeopnopaa
open Go.RowKit

def lenL (xs : List Int) : List Int := (cycL xs).map fun c => (c.length : Int)
def lensL (xs : List Int) : List Int := sortL (lenL xs)
def lensR (xs : List Int) : List Int := if okP xs then lensL xs else []
theorem cycL_le (xs : List Int) : (cycL xs).length ≤ xs.length := cycTo_le _
theorem lensL_length (xs : List Int) : (lensL xs).length = (cycL xs).length := by rw [lensL, sortL_length, lenL, List.length_map]
theorem lensR_len (xs : List Int) : (lensR xs).length ≤ xs.length := by
  unfold lensR; split
  · rw [lensL_length]; exact cycL_le xs
  · simp
theorem ownSS_n {w : World} {lo hi e n c : Nat} {A : Option Addr} {xss : List (List Int)} (h : OwnSS w lo hi e A n c xss) : xss.length = n := h.choose_spec.2.2.1
theorem lenL_succ {xs cy : List Int} {k : Nat} (h : (cycL xs)[k]? = some cy) : (lenL xs).take (k + 1) = (lenL xs).take k ++ [(cy.length : Int)] := by
  rw [List.take_add_one]
  simp [lenL, h]

end Go.Proofs.Ytmgoaabeopnopaa
namespace Go.Proofs.Ytmgoaabeopnopaa
open Go.RowKit

theorem gcd_step (x y : Nat) : Nat.gcd y (x % y) = Nat.gcd x y := by rw [Nat.gcd_comm y (x % y), ← Nat.gcd_rec, Nat.gcd_comm]
end Go.Proofs.Ytmgoaabeopnopaa
namespace Go.Proofs.Ytmgoaabeopnopaa
open Go.RowKit

/-- The least common multiple of the numbers, one after the other, or one more than the limit as soon as it is passed. -/
def ordF : List Int → Nat → Nat
  | [], o => o
  | x :: r, o => if 1000000000000000 < o / Nat.gcd o x.toNat * x.toNat then 1000000000000001 else ordF r (o / Nat.gcd o x.toNat * x.toNat)
theorem ordF_step {l : List Int} {k o x : Nat} (h : l[k]? = some (x : Int)) : ordF (l.drop k) o = if 1000000000000000 < o / Nat.gcd o x * x then 1000000000000001 else ordF (l.drop (k + 1)) (o / Nat.gcd o x * x) := by
  have hk := (List.getElem?_eq_some_iff.1 h).1
  have hx := (List.getElem?_eq_some_iff.1 h).2
  rw [List.drop_eq_getElem_cons hk, ordF, hx]
  simp
theorem step_bound {o x : Nat} (ho : o ≤ 1000000000000000) (hx : x ≤ 400) : o / Nat.gcd o x * x ≤ 400000000000000000 := by
  have h1 : o / Nat.gcd o x ≤ o := Nat.div_le_self _ _
  have h2 : o / Nat.gcd o x * x ≤ o * 400 := Nat.mul_le_mul h1 hx
  omega
theorem step_other {o x : Nat} : o * (x / Nat.gcd o x) = o / Nat.gcd o x * x := by
  rw [← Nat.mul_div_assoc o (Nat.gcd_dvd_right o x), Nat.div_mul_right_comm (Nat.gcd_dvd_left o x) x]
/-- Each length of a cycle is at least 1 and at most the number of points. -/
theorem cyc_bounds {xs : List Int} {n : Nat} (hxn : xs.length = n) (hok : okP xs = true) : ∀ k, k ≤ n → ∀ c ∈ cycTo xs n k, 1 ≤ c.length ∧ c.length ≤ n
  | 0, _ => by simp [cycTo]
  | k + 1, hk => by
    have ih := cyc_bounds hxn hok k (by omega)
    have hp := cycTo_passed hxn hok (k + 1) hk
    by_cases h : (k : Int) ∈ (cycTo xs n k).flatten
    · rw [cycTo_in h]; exact ih
    · have hps := cycTo_passed hxn hok k (by omega)
      rw [cycTo_out h] at hp ⊢
      intro c hc
      rcases List.mem_append.1 hc with h1 | h1
      · exact ih c h1
      · have h1 : c = trail xs (cycTo xs n k).flatten (n - (cycTo xs n k).flatten.length) [] k := List.mem_singleton.1 h1
        have h2 := passed_len hp
        rw [← h1, List.flatten_append, List.length_append] at h2
        have h5 : [c].flatten.length = c.length := by simp
        refine ⟨?_, by omega⟩
        have hx : xs[k]? = some xs[k] := List.getElem?_eq_getElem (by omega)
        obtain ⟨q, hq, _⟩ := okP_at hok hxn hx
        have h3 := trail_out (xs := xs) (vis := (cycTo xs n k).flatten) (cur := []) (n := n) (p := k) (q := q) (by simpa using hps) (by omega) (by simpa using h) (by rw [hx, hq])
        have h4 := trail_le xs (cycTo xs n k).flatten (n - ((cycTo xs n k).flatten ++ ([] ++ [(k : Int)])).length) ([] ++ [(k : Int)]) q
        rw [← h3] at h4
        simp only [List.append_nil] at h4
        rw [← h1] at h4
        simpa using h4
theorem lens_bounds {xs : List Int} (hok : okP xs = true) {k : Nat} {x : Int} (h : (lensL xs)[k]? = some x) : ∃ l : Nat, x = (l : Int) ∧ 1 ≤ l ∧ l ≤ 400 := by
  have h1 : x ∈ lensL xs := mem_of_get h
  have h2 : x ∈ lenL xs := (sortL_perm _).mem_iff.1 h1
  obtain ⟨c, hc, rfl⟩ := List.mem_map.1 h2
  have h3 := cyc_bounds rfl hok xs.length (Nat.le_refl _) c hc
  have h4 := (of_decide_eq_true hok).1
  exact ⟨c.length, rfl, h3.1, by omega⟩

theorem ord_wrap {o g l : Nat} (ho : o ≤ 1000000000000000) (hb : o / g * l ≤ 400000000000000000) : wrap64 (wrap64 ((o : Int) / (g : Int)) * (l : Int)) = ((o / g * l : Nat) : Int) := by
  have h1 : o / g ≤ o := Nat.div_le_self _ _
  have e1 : ((o : Int) / (g : Int)) = ((o / g : Nat) : Int) := (Int.natCast_ediv o g).symm
  rw [e1]
  generalize o / g = q at *
  rw [IntWalk.wrap64_in (q : Int) (by omega), ← Int.natCast_mul, IntWalk.wrap64_in _ (by omega)]
theorem ord_wrap2 {o g l : Nat} (hl : l ≤ 400) (hb : o * (l / g) ≤ 400000000000000000) : wrap64 ((o : Int) * wrap64 ((l : Int) / (g : Int))) = ((o * (l / g) : Nat) : Int) := by
  have h1 : l / g ≤ l := Nat.div_le_self _ _
  have e1 : ((l : Int) / (g : Int)) = ((l / g : Nat) : Int) := (Int.natCast_ediv l g).symm
  rw [e1]
  generalize l / g = q at *
  rw [IntWalk.wrap64_in (q : Int) (by omega), ← Int.natCast_mul, IntWalk.wrap64_in _ (by omega)]
end Go.Proofs.Ytmgoaabeopnopaa
namespace Go.Proofs.Ytmgoaabeopnopaa
open Go.RowKit

def ordO (xs : List Int) : Nat := ordF (lensL xs) 1
/-- What the program's own order function gives back. -/
def OrdRet (w : World) (xs : List Int) (e : Ending) (w' : World) : Prop :=
  ((1000000000000000 < ordO xs ∧ e = .returned (.tuple #[.int .i64 0, .bool false])) ∨ (ordO xs ≤ 1000000000000000 ∧ e = .returned (.tuple #[.int .i64 (ordO xs), .bool true]))) ∧ Below w.heap.size w w'

def ordR (xs : List Int) : Int := if okP xs then (if 1000000000000000 < ordO xs then 0 else (ordO xs : Int)) else 0
def ordC (xs : List Int) : Int := if okP xs then (if 1000000000000000 < ordO xs then 3 else 0) else 1

end Go.Proofs.Ytmgoaabeopnopaa
/- Powers of a permutation: by doubling, and along its cycles; plain facts, no program. -/
namespace Go.Proofs.Ytmgoaabeopnopaa
open Go.RowKit

def it (xs : List Int) : Nat → Int → Int
  | 0, x => x
  | m + 1, x => it xs m (fz xs x)
theorem it_add (xs : List Int) (b : Nat) : ∀ (a : Nat) (x : Int), it xs b (it xs a x) = it xs (a + b) x
  | 0, x => by simp [it]
  | a + 1, x => by
    rw [it, it_add xs b a, show a + 1 + b = (a + b) + 1 by omega, it]
theorem it_in {xs : List Int} {n : Nat} (hxn : xs.length = n) (hok : InR xs n) : ∀ (m : Nat) {x : Int}, 0 ≤ x → x < (n : Int) → 0 ≤ it xs m x ∧ it xs m x < (n : Int)
  | 0, _, h0, h1 => ⟨h0, h1⟩
  | m + 1, x, h0, h1 => by
    have hx : xs[x.toNat]? = some xs[x.toNat] := List.getElem?_eq_getElem (by omega)
    have e : fz xs x = xs[x.toNat] := by simp [fz, hx]
    have := hok _ (List.mem_of_getElem? hx)
    rw [it, e]
    exact it_in hxn hok m this.1 this.2
def powN (xs : List Int) (n m : Nat) : List Int := (List.range n).map fun (j : Nat) => it xs m (j : Int)
theorem powN_length (xs : List Int) (n m : Nat) : (powN xs n m).length = n := by simp [powN]
theorem powN_zero (xs : List Int) (n : Nat) : powN xs n 0 = (List.range n).map fun (j : Nat) => (j : Int) := rfl
theorem powN_one {xs : List Int} {n : Nat} (h : xs.length = n) : powN xs n 1 = xs := by
  apply List.ext_getElem (by simp [powN, h])
  intro i h1 h2
  simp [powN, it, fz, h2]
theorem powN_at {xs : List Int} {n m j : Nat} (hj : j < n) : (powN xs n m)[j]? = some (it xs m j) := by simp [powN, hj]
theorem inR_powN {xs : List Int} {n : Nat} (hxn : xs.length = n) (hok : InR xs n) (m : Nat) : InR (powN xs n m) n := by
  intro x hx
  obtain ⟨j, hj, rfl⟩ := List.mem_map.1 hx
  exact it_in hxn hok m (by omega) (by have := List.mem_range.1 hj; omega)
theorem then_powN {xs : List Int} {n : Nat} (hxn : xs.length = n) (hok : InR xs n) (a b : Nat) : thenL (powN xs n a) (powN xs n b) = powN xs n (a + b) := by
  apply List.ext_getElem (by simp [powN, thenL])
  intro i h1 h2
  have hi : i < n := by simpa [powN] using h2
  have hr := it_in hxn hok a (x := (i : Int)) (by omega) (by omega)
  have e := powN_at (xs := xs) (m := b) (n := n) (j := (it xs a i).toNat) (by omega)
  rw [show (((it xs a i).toNat : Nat) : Int) = it xs a i by omega, it_add] at e
  have e1 : (powN xs n a)[i]'(by simpa [powN] using hi) = it xs a i := by simp [powN]
  simp only [thenL, List.getElem_map]
  rw [e1, List.getD_eq_getElem?_getD, e]
  simp [powN]
/-- What the power leads a point to. -/
def pwBase (xs : List Int) (k : Int) : List Int := if k < 0 then invL xs else xs
def pwT (xs : List Int) (k : Int) (x : Int) : Int := it (pwBase xs k) k.natAbs x
def powL (xs : List Int) (k : Int) : List Int := powN (pwBase xs k) xs.length k.natAbs
theorem pwBase_len (xs : List Int) (k : Int) : (pwBase xs k).length = xs.length := by unfold pwBase; split <;> simp [invL_len]
theorem powL_length (xs : List Int) (k : Int) : (powL xs k).length = xs.length := powN_length _ _ _
theorem powL_at {xs : List Int} {k : Int} {j : Nat} (hj : j < xs.length) : (powL xs k)[j]? = some (pwT xs k j) := powN_at hj
theorem backTo_at {xs : List Int} {n : Nat} (hxn : xs.length = n) (hok : okP xs = true) : ∀ k, k ≤ n → ∀ (j m : Nat), j < k → xs[j]? = some (m : Int) → (backTo xs n k)[m]? = some (j : Int)
  | 0, _, j, m, h, _ => absurd h (by omega)
  | k + 1, hk, j, m, hj, hx => by
    have hxk : xs[k]? = some xs[k] := List.getElem?_eq_getElem (by omega)
    obtain ⟨q, hq, hlt⟩ := okP_at hok hxn hxk
    rw [hq] at hxk
    rw [← backTo_succ hxk]
    rcases Nat.lt_succ_iff_lt_or_eq.1 hj with h1 | rfl
    · have hne : q ≠ m := by
        rintro rfl
        have hnd := (of_decide_eq_true hok).2.2
        have := List.pairwise_iff_getElem.1 hnd j k (by omega) (by omega) h1
        apply this
        rw [hq]
        exact (List.getElem?_eq_some_iff.1 hx).2
      rw [List.getElem?_set_ne hne]
      exact backTo_at hxn hok k (by omega) j m h1 hx
    · rw [hxk] at hx
      injection hx with hx
      obtain rfl : q = m := by omega
      rw [List.getElem?_set_self (by rw [backTo_length]; exact hlt)]
theorem fz_inv {xs : List Int} {n : Nat} (hxn : xs.length = n) (hok : okP xs = true) {x : Int} (h0 : 0 ≤ x) (h1 : x < (n : Int)) : fz (invL xs) (fz xs x) = x := by
  obtain ⟨j, rfl⟩ := Int.eq_ofNat_of_zero_le h0
  have hx : xs[j]? = some xs[j] := List.getElem?_eq_getElem (by omega)
  obtain ⟨q, hq, hlt⟩ := okP_at hok hxn hx
  rw [fz_at hx, hq]
  rw [hq] at hx
  exact fz_at (by unfold invL; rw [hxn]; exact backTo_at hxn hok n (Nat.le_refl _) j q (by omega) hx)
theorem cyc_it {xs c : List Int} (h : CycOk xs c) : ∀ (m i : Nat) (x : Int), c[i]? = some x → c[(i + m) % c.length]? = some (it xs m x)
  | 0, i, x, hx => by
    have := (List.getElem?_eq_some_iff.1 hx).1
    rw [Nat.add_zero, Nat.mod_eq_of_lt this]
    exact hx
  | m + 1, i, x, hx => by
    have h1 := cyc_it h m _ _ (h i x hx)
    rw [it, ← h1]
    congr 1
    rw [Nat.mod_add_mod]
    congr 1
    omega
theorem cyc_back {xs c : List Int} {n : Nat} (hxn : xs.length = n) (hok : okP xs = true) (hr : ∀ x ∈ c, 0 ≤ x ∧ x < (n : Int)) (h : CycOk xs c) : ∀ (m i : Nat) (x y : Int), c[i]? = some x → c[(i + m) % c.length]? = some y → it (invL xs) m y = x
  | 0, i, x, y, hx, hy => by
    have := (List.getElem?_eq_some_iff.1 hx).1
    rw [Nat.add_zero, Nat.mod_eq_of_lt this, hx] at hy
    injection hy with hy
    exact hy.symm
  | m + 1, i, x, y, hx, hy => by
    have hpos : 0 < c.length := by have := (List.getElem?_eq_some_iff.1 hx).1; omega
    have hlt : (i + m) % c.length < c.length := Nat.mod_lt _ hpos
    obtain ⟨z, hz⟩ : ∃ z, c[(i + m) % c.length]? = some z := ⟨_, List.getElem?_eq_getElem hlt⟩
    have h1 := h _ _ hz
    rw [Nat.mod_add_mod, Nat.add_assoc, hy] at h1
    injection h1 with h1
    have hzr := hr z (List.mem_of_getElem? hz)
    rw [it, h1, fz_inv hxn hok hzr.1 hzr.2]
    exact cyc_back hxn hok hr h m i x z hx hz
/-- The point that stands shift places on in the cycle. -/
theorem cyc_pow {xs c : List Int} {n : Nat} (hxn : xs.length = n) (hok : okP xs = true) (hr : ∀ x ∈ c, 0 ≤ x ∧ x < (n : Int)) (h : CycOk xs c) {k : Int} {s i : Nat} {x : Int} (hs : (s : Int) = k % (c.length : Int)) (hx : c[i]? = some x) :
    c[(i + s) % c.length]? = some (pwT xs k x) := by
  have hi := (List.getElem?_eq_some_iff.1 hx).1
  have hpos : 0 < c.length := by omega
  unfold pwT pwBase
  by_cases hk : k < 0
  · rw [if_pos hk]
    obtain ⟨m, hm⟩ : ∃ m, k.natAbs = m := ⟨_, rfl⟩
    have e : k = -(m : Int) := by omega
    rw [hm]
    obtain ⟨y, hy⟩ : ∃ y, c[(i + s) % c.length]? = some y := ⟨_, List.getElem?_eq_getElem (Nat.mod_lt _ hpos)⟩
    rw [hy]
    congr 1
    have h1 : (((s + m) % c.length : Nat) : Int) = 0 := by
      have h2 : ((s : Int) + m) % (c.length : Int) = 0 := by rw [hs, e, Int.emod_add_emod, Int.add_left_neg, Int.zero_emod]
      exact_mod_cast h2
    have h2 : (s + m) % c.length = 0 := by exact_mod_cast h1
    have h3 : ((i + s) % c.length + m) % c.length = i := by
      rw [Nat.mod_add_mod, Nat.add_assoc, Nat.add_mod, h2, Nat.add_zero, Nat.mod_mod, Nat.mod_eq_of_lt hi]
    exact (cyc_back hxn hok hr h m _ y x hy (by rw [h3]; exact hx)).symm
  · rw [if_neg hk]
    obtain ⟨m, hm⟩ : ∃ m, k.natAbs = m := ⟨_, rfl⟩
    have e : k = (m : Int) := by omega
    rw [hm, ← cyc_it h m i x hx]
    have hs2 : s = m % c.length := by rw [e] at hs; exact_mod_cast hs
    rw [hs2, Nat.add_mod_mod]
/-- The list has, at each point passed, what the power leads it to. -/
def PwOk (xs : List Int) (k : Int) (D vis : List Int) : Prop := ∀ (p : Nat), (p : Int) ∈ vis → D[p]? = some (pwT xs k p)
theorem pwOk_nil (xs : List Int) (k : Int) (D : List Int) : PwOk xs k D [] := fun p h => by simp at h
theorem pwOk_step {xs D vis : List Int} {k : Int} {p : Nat} (h : PwOk xs k D vis) (hp : p < D.length) : PwOk xs k (D.set p (pwT xs k p)) (vis ++ [(p : Int)]) := by
  intro q hq
  by_cases e : p = q
  · subst e; rw [List.getElem?_set_self hp]
  · rw [List.getElem?_set_ne e]
    rcases List.mem_append.1 hq with h1 | h1
    · exact h q h1
    · simp at h1; omega
theorem pwOk_all {xs D : List Int} {k : Int} {n : Nat} (hxn : xs.length = n) (hok : okP xs = true) (hD : D.length = n) (h : PwOk xs k D (cycL xs).flatten) : D = powL xs k := by
  apply List.ext_getElem? 
  intro p
  by_cases hp : p < n
  · have hc := (cyc_all hxn hok n (Nat.le_refl _)).2.2 p hp
    have e : cycTo xs n n = cycL xs := by unfold cycL; rw [hxn]
    rw [e] at hc
    rw [h p hc, powL_at (by omega)]
  · rw [List.getElem?_eq_none (by omega), List.getElem?_eq_none (by rw [powL_length]; omega)]
def powR (xs : List Int) (k : Int) : List Int := if okP xs then (if k < -1000000000 ∨ 1000000000 < k then [] else powL xs k) else []
def powC (xs : List Int) (k : Int) : Int := if okP xs then (if k < -1000000000 ∨ 1000000000 < k then 2 else 0) else 1
theorem powR_len (xs : List Int) (k : Int) : (powR xs k).length ≤ xs.length := by
  unfold powR
  split
  · split
    · simp
    · rw [powL_length]; exact Nat.le_refl _
  · simp
/-- The shift as the program finds it. -/
theorem shift_of {k : Int} {l : Nat} (hl : 0 < l) : Int.tmod (Int.tmod k l + l) l = k % (l : Int) := by
  have h1 : 0 ≤ Int.tmod k l + l := by have := Int.lt_tmod_of_pos k (show (0 : Int) < l by omega); omega
  rw [Int.tmod_eq_emod_of_nonneg h1]
  rw [Int.add_emod_right]
  rw [Int.tmod_eq_emod]
  split
  · simp
  · simp
end Go.Proofs.Ytmgoaabeopnopaa
namespace Go.Proofs.Ytmgoaabeopnopaa
open Go.RowKit

def unitL (n : Nat) : List Int := (List.range n).map fun (j : Nat) => (j : Int)
theorem unitL_succ (k : Nat) : unitL (k + 1) = unitL k ++ [(k : Int)] := by simp [unitL, List.range_succ]
def RetN (w : World) (L : List Int) (n : Nat) (e : Ending) (w' : World) : Prop :=
  ∃ A c, e = .returned (.slice A n c) ∧ w'.ownsRow w.heap.size 2 1 (.slice A n c) n (ints L) ∧ Below w.heap.size w w'
set_option maxHeartbeats 800000 in
theorem unit_any (n : Nat) (w : World) (hn : n ≤ 1048576) : Calls Try.prog 177 #[.int .i64 n] w (RetN w (unitL n) n) := by
  go_enter Try.func177, Try.ntmps177
  go_wp2
  go_loopw [3, 4] (fun v i wr => ∃ k : Nat, k ≤ n ∧ i = .int .i64 k ∧ ∃ A' c', v = .slice A' k c' ∧ wr.ownsRow w.heap.size 2 1 (.slice A' k c') k (ints (unitL k)) ∧ Below w.heap.size w wr) (fun _ i _ => n - (intOf i).toNat)
  case atStart => exact ⟨0, Nat.zero_le _, rfl, _, _, rfl, by simpa [unitL] using World.ownsRow_made (base := w.heap.size) (e := 2) (size := 1) w #[] 0 (Nat.le_refl _) (Nat.zero_le _) (by simp), (Below.refl _ _).alloc (Nat.le_refl _) _⟩
  case round =>
    obtain ⟨k, hk, rfl, A', c', rfl, own, bel⟩ := hrel
    have OWN := Lib.hid own
    have BEL := Lib.hid bel
    have hsz := bel.size
    clear own bel
    by_cases hlt : k < n
    · go_wp2_with (at_builtin; refine wpList_push _ rfl _ _ 36 2 rfl Try.underlying36 (.int .i64 0) 8 Try.info2 rfl w.heap.size _ _ _ rfl OWN.out _ rfl rfl (by omega) (by omega) (by omega) ?_)
      intro A3 c3 w3 own3 bel3 _
      have OWN3 := Lib.hid own3
      have BEL3 := Lib.hid bel3
      clear own3 bel3
      go_wp2
      go_roundw
      case rel => exact ⟨k + 1, by omega, by go_num, A3, c3, rfl, by rw [unitL_succ]; simpa using OWN3.out, BEL.out.trans BEL3.out⟩
      case measure => simp [intOf]; omega
    · go_wp2
      go_ret
      obtain rfl : k = n := by omega
      exact ⟨A', c', rfl, OWN.out, BEL.out⟩

structure PwIn (w wr : World) (B : List Int) (n K q : Nat) (A6 A7 : Option Addr) (c7 : Nat) (a b : Nat) : Prop where
  sum : a + q * b = K
  step : Rd wr A6 (ints (powN B n b))
  out : wr.ownsRow w.heap.size 2 1 (.slice A7 n c7) n (ints (powN B n a))
  bel : Below w.heap.size w wr
theorem PwIn.odd {w wr w2 w3 : World} {B : List Int} {n K q : Nat} {A6 A7 A8 A9 : Option Addr} {c7 c8 c9 a b : Nat} (h : PwIn w wr B n K q A6 A7 c7 a b) (ho : q % 2 = 1)
    (h1 : w2.ownsRow wr.heap.size 2 1 (.slice A8 n c8) n (ints (powN B n (a + b)))) (b1 : Below wr.heap.size wr w2)
    (h2 : w3.ownsRow w2.heap.size 2 1 (.slice A9 n c9) n (ints (powN B n (b + b)))) (b2 : Below w2.heap.size w2 w3) : PwIn w w3 B n K (q / 2) A9 A8 c8 (a + b) (b + b) := by
  have e := Nat.div_add_mod q 2
  refine ⟨?_, own_rd h2, own_base (own_below h1 b2 (Nat.le_refl _)) h.bel.size, h.bel.trans ((b1.trans (b2.mono b1.size)).mono h.bel.size)⟩
  rw [← h.sum, ← Nat.two_mul, ← Nat.mul_assoc]
  rw [ho] at e
  conv => rhs; rw [← e]
  rw [Nat.add_mul, Nat.one_mul, Nat.mul_comm (q / 2) 2]
  omega
theorem PwIn.even {w wr w3 : World} {B : List Int} {n K q : Nat} {A6 A7 A9 : Option Addr} {c7 c9 a b : Nat} (h : PwIn w wr B n K q A6 A7 c7 a b) (ho : ¬ q % 2 = 1)
    (h2 : w3.ownsRow wr.heap.size 2 1 (.slice A9 n c9) n (ints (powN B n (b + b)))) (b2 : Below wr.heap.size wr w3) : PwIn w w3 B n K (q / 2) A9 A7 c7 a (b + b) := by
  have e := Nat.div_add_mod q 2
  refine ⟨?_, own_rd h2, own_below h.out b2 (Nat.le_refl _), h.bel.trans (b2.mono h.bel.size)⟩
  rw [← h.sum, ← Nat.two_mul, ← Nat.mul_assoc]
  have ho : q % 2 = 0 := by omega
  rw [ho] at e
  conv => rhs; rw [← e]
  rw [Nat.add_zero, Nat.mul_comm (q / 2) 2]

end Go.Proofs.Ytmgoaabeopnopaa
namespace Go.Proofs.Ytmgoaabeopnopaa
open Go.RowKit

theorem ownSS_row {w : World} {lo hi e n c k : Nat} {A : Option Addr} {xss : List (List Int)} (h : OwnSS w lo hi e A n c xss) (hk : k < n) :
    ∃ (b o : Nat) (A' : Option Addr) (c' : Nat) (xs : List Int), A = some ⟨b, o, none⟩ ∧ xss[k]? = some xs ∧ w.cell? ⟨b, o + k, none⟩ = some (.slice A' xs.length c') ∧ w.ownsRow lo 2 1 (.slice A' xs.length c') xs.length (ints xs) ∧ InB (.slice A' xs.length c') lo hi := by
  obtain ⟨vals, a1, hp, a2, a3, a4⟩ := h
  obtain ⟨A', c', h1, h2, h3⟩ := a3 k xss[k] (List.getElem?_eq_getElem (by omega))
  have hl := a1.1
  obtain ⟨b, o, he, hc⟩ := own_rd a1 (by omega)
  exact ⟨b, o, A', c', _, he, List.getElem?_eq_getElem (by omega), hc k _ h1, h2, h3⟩
theorem Turns.stored {w : World} {lo hi g n c e : Nat} {vs : List Value} (h : w.ownsRow lo e 1 (.slice (some ⟨g, 0, none⟩) n c) n vs) (hg : lo ≤ g ∧ g < hi) (k : Nat) (v : Value) : Turns lo hi w (w.setCell ⟨g, k, none⟩ v) :=
  Turns.of_grown (v := .slice (some ⟨g, 0, none⟩) n c) (h.stored k v).2 (fun j hj => by simp [Value.ownBlock] at hj; omega)
theorem cyc_facts {xs c : List Int} {n k : Nat} (hxn : xs.length = n) (hok : okP xs = true) (h : (cycL xs)[k]? = some c) : CycOk xs c ∧ (∀ x ∈ c, 0 ≤ x ∧ x < (n : Int)) ∧ 1 ≤ c.length ∧ c.length ≤ n := by
  have e : cycTo xs n n = cycL xs := by unfold cycL; rw [hxn]
  have hm : c ∈ cycTo xs n n := by rw [e]; exact List.mem_of_getElem? h
  refine ⟨(cyc_all hxn hok n (Nat.le_refl _)).1 c hm, fun x hx => (cycTo_passed hxn hok n (Nat.le_refl _)).1 x (List.mem_flatten.2 ⟨c, hm, hx⟩), cyc_bounds hxn hok n (Nat.le_refl _) c hm⟩

end Go.Proofs.Ytmgoaabeopnopaa
