/- Cycles of a permutation as both programs find them; plain facts; a row pushed onto rows. -/
import Derived.Test.YtbjfeogkdfmjpaaSSc
import Derived.Test.YtbjfeogkdfmjpaaWkH
namespace Go.Proofs.Ytbjfeogkdfmjpaa
open Go.RowKit

theorem wpList_push2 {P : Program} (w : World) {ops : Array Oper} {rest : List Oper} {o : Oper} {a : Act} {Q : Exit → Act → World → Prop} (hgd : o.guard = none) (s x : Operand) (t e : TypeId)
    (ho : o.op = .call { callee := .builtin .append, args := #[s, x], argTypes := #[t, t] }) (ht : P.underlying t = some (.slice e))
    (z : Value) (bytes : Nat) (hinfo : (P.info? e).map (fun i => (i.zero, i.size, i.bytes)) = some (some z, 1, bytes)) (hz : z.cells.size = 1)
    (base : Nat) (v : Value) (n : Nat) (vs : List Value) (hs : a.eval s = v) (hown : w.ownsRow base e 1 v n vs) (u : Value) (hu : u.oneCell' = true)
    (hx : a.eval x = .slice (some ⟨w.heap.size, 0, none⟩) 1 1) (hn : (n + 1) * bytes ≤ 140737488355328) (hm : n + 1 ≤ 9223372036854775807) (hb : base ≤ w.heap.size)
    (h : ∀ A' c' w', w'.ownsRow base e 1 (.slice A' (n + 1) c') (n + 1) (vs ++ [u]) → (w.alloc (.cells #[u] e)).grownBy w' v.ownBlock → wpList P ops Q rest (a.put o.dst (.slice A' (n + 1) c')) w') :
    wpList P ops Q (o :: rest) a (w.alloc (.cells #[u] e)) := by
  obtain ⟨i, hi, hzz⟩ := Option.map_eq_some_iff.1 hinfo
  simp only [Prod.mk.injEq] at hzz
  obtain ⟨h1, h2, h3⟩ := hzz
  refine wpList_append_own _ hgd s x t ho base e i z 1 bytes ht hi h1 h2 h3 hz (by decide) v n vs hs (hown.alloc _) ⟨w.heap.size, 0, none⟩ 1 1 [u] hx rfl ?_ ?_ (by unfold maxLen; omega) hn (by simp; omega) ?_
  · intro j y hj
    match j, hj with
    | 0, hj =>
      simp at hj
      subst hj
      simp [Addr.add]
  · intro y hy
    simp at hy
    subst hy
    exact hu
  · intro v' w' hown' hg _
    rcases hown'.2 with ⟨_, h0⟩ | ⟨g, cap, cur, rfl, rest⟩
    · omega
    · exact h _ _ _ hown' hg

/-- Rows are kept when a row of another element type is written. -/
theorem ownSS_other {w w' : World} {lo hi e n c b e2 n2 : Nat} {A : Option Addr} {xss : List (List Int)} {v2 : Value} {vs2 : List Value} (h : OwnSS w lo hi e A n c xss) (h2 : w.ownsRow b e2 1 v2 n2 vs2) (hg : w.grownBy w' v2.ownBlock) (h3 : e ≠ e2) (h4 : 2 ≠ e2) :
    OwnSS w' lo hi e A n c xss := by
  obtain ⟨vals, a1, hp, a2, a3, a4⟩ := h
  exact ⟨vals, a1.kept hg (own_ne a1 h2 h3), hp, a2, fun j xs hj => by obtain ⟨A', c', b1, b2, b3⟩ := a3 j xs hj; exact ⟨A', c', b1, b2.kept hg (own_ne b2 h2 h4), b3⟩, a4⟩
theorem own_lt {w w' : World} {base e n c B lo hi : Nat} {A : Option Addr} {vs : List Value} (h : w.ownsRow base e 1 (.slice A n c) n vs) (hp : InB (.slice A n c) lo hi) (hb : Below B w w') (hB : hi ≤ B) : w'.ownsRow base e 1 (.slice A n c) n vs := by
  refine ⟨h.1, ?_⟩
  rcases h.2 with hn | ⟨g, cap, cur, hv, hbb, hg, rest⟩
  · exact .inl hn
  · refine .inr ⟨g, cap, cur, hv, hbb, ?_, rest⟩
    have := hp g (by rw [hv]; rfl)
    rw [hb.block g (by omega)]
    exact hg
theorem ownSS_lt {w w' : World} {lo hi e n c B : Nat} {A : Option Addr} {xss : List (List Int)} (h : OwnSS w lo hi e A n c xss) (hb : Below B w w') (hB : hi ≤ B) : OwnSS w' lo hi e A n c xss := by
  obtain ⟨vals, a1, hp, a2, a3, a4⟩ := h
  exact ⟨vals, own_lt a1 hp hb hB, hp, a2, fun j xs hj => by obtain ⟨A', c', b1, b2, b3⟩ := a3 j xs hj; exact ⟨A', c', b1, own_lt b2 b3 hb hB, b3⟩, a4⟩
/-- A row that the call owns is pushed onto rows. -/
theorem ownSS_push {w w' : World} {lo hi e n c c1 c2 bc : Nat} {A A1 A2 : Option Addr} {xss : List (List Int)} {xs : List Int} {o : Obj} (h : OwnSS w lo hi e A n c xss) (he : e ≠ 2) (own : w.ownsRow bc 2 1 (.slice A1 xs.length c1) xs.length (ints xs)) (hbc : hi ≤ bc) (hlo : lo ≤ bc)
    (hnew : ∀ vals, w.ownsRow lo e 1 (.slice A n c) n vals → w'.ownsRow lo e 1 (.slice A2 (n + 1) c2) (n + 1) (vals ++ [.slice A1 xs.length c1])) (hg : (w.alloc o).grownBy w' (Value.slice A n c).ownBlock) :
    OwnSS w' lo w'.heap.size e A2 (n + 1) c2 (xss ++ [xs]) := by
  obtain ⟨vals, a1, hp, a2, a3, a4⟩ := h
  have hn := hnew vals a1
  have hl : vals.length = n := by have := a1.1; omega
  have hws : w.heap.size ≤ w'.heap.size := Nat.le_trans (by simp) hg.size
  have hin := own_in own
  have hino := own_in hn
  have keep : ∀ {b m cc : Nat} {B : Option Addr} {vs : List Value}, w.ownsRow b 2 1 (.slice B m cc) m vs → w'.ownsRow b 2 1 (.slice B m cc) m vs := fun hh =>
    (hh.alloc o).kept hg (own_ne (hh.alloc o) (a1.alloc o) (fun e1 => he e1.symm))
  have hhi : InB (.slice A n c) lo w.heap.size := own_in a1
  refine ⟨_, hn, hino, by simp [a2], ?_, ?_⟩
  · intro j ys hj
    by_cases ej : j < n
    · rw [List.getElem?_append_left (by omega)] at hj
      obtain ⟨A', c', b1, b2, b3⟩ := a3 j ys hj
      refine ⟨A', c', by rw [List.getElem?_append_left (by omega)]; exact b1, keep b2, fun k hk => ?_⟩
      have h1 := b3 k hk
      have h2 := b2.lt k hk
      omega
    · have hjn : j = n := by have := (List.getElem?_eq_some_iff.1 hj).1; simp at this; omega
      subst hjn
      rw [List.getElem?_append_right (by omega)] at hj
      simp [a2] at hj
      subst hj
      refine ⟨A1, c1, by rw [List.getElem?_append_right (by omega)]; simp [hl], own_base (keep own) hlo, fun k hk => ?_⟩
      have h1 := hin k hk
      omega
  · have old : ∀ (i : Nat) (u : Value), i < n → vals[i]? = some u → ∀ g, u.ownBlock = some g → g < hi := by
      intro i u hi' hu g hg'
      obtain ⟨A', c', b1, _, b3⟩ := a3 i xss[i] (List.getElem?_eq_getElem (by omega))
      rw [hu] at b1
      injection b1 with b1
      subst b1
      exact (b3 g hg').2
    intro i j u v hij hu hv g hgu
    by_cases hi' : i < n
    · rw [List.getElem?_append_left (by omega)] at hu
      by_cases hj : j < n
      · rw [List.getElem?_append_left (by omega)] at hv
        exact a4 i j u v hij hu hv g hgu
      · have hjn : j = n := by have := (List.getElem?_eq_some_iff.1 hv).1; simp at this; omega
        subst hjn
        rw [List.getElem?_append_right (by omega)] at hv
        simp [hl] at hv
        subst hv
        intro h2
        have h3 := hin g h2
        have h4 := old i u hi' hu g hgu
        omega
    · have hin' : i = n := by have := (List.getElem?_eq_some_iff.1 hu).1; simp at this; omega
      subst hin'
      rw [List.getElem?_append_right (by omega)] at hu
      simp [hl] at hu
      subst hu
      have hj : j < i := by have := (List.getElem?_eq_some_iff.1 hv).1; simp at this; omega
      rw [List.getElem?_append_left (by omega)] at hv
      intro h2
      have h3 := hin g hgu
      have h4 := old j v hj hv g h2
      omega

/-- The points that are passed from p on, until one comes that has been passed. -/
def trail (xs vis : List Int) : Nat → List Int → Int → List Int
  | 0, cur, _ => cur
  | f + 1, cur, p => if p ∈ vis ++ cur then cur else trail xs vis f (cur ++ [p]) (xs.getD p.toNat 0)
def cycTo (xs : List Int) (n : Nat) : Nat → List (List Int)
  | 0 => []
  | k + 1 => if (k : Int) ∈ (cycTo xs n k).flatten then cycTo xs n k else cycTo xs n k ++ [trail xs (cycTo xs n k).flatten (n - (cycTo xs n k).flatten.length) [] k]
def cycL (xs : List Int) : List (List Int) := cycTo xs xs.length xs.length
/-- Points that are each passed once. -/
def Passed (n : Nat) (l : List Int) : Prop := (∀ x ∈ l, 0 ≤ x ∧ x < (n : Int)) ∧ l.Nodup
theorem passed_len {n : Nat} {l : List Int} (h : Passed n l) : l.length ≤ n := by
  have hs : l ⊆ (List.range n).map fun (j : Nat) => (j : Int) := by
    intro x hx
    have := h.1 x hx
    exact List.mem_map.2 ⟨x.toNat, List.mem_range.2 (by omega), by omega⟩
  have := List.Nodup.length_le_of_subset h.2 hs
  simpa using this
theorem passed_snoc {n p : Nat} {l : List Int} (h : Passed n l) (hp : p < n) (hn : ¬ (p : Int) ∈ l) : Passed n (l ++ [(p : Int)]) := by
  refine ⟨fun x hx => ?_, ?_⟩
  · rcases List.mem_append.1 hx with h1 | h1
    · exact h.1 x h1
    · simp at h1; omega
  · rw [List.nodup_append]
    refine ⟨h.2, by simp, fun a ha b hb => ?_⟩
    simp at hb
    subst hb
    rintro rfl
    exact hn ha
theorem trail_in {xs vis cur : List Int} {f : Nat} {p : Int} (h : p ∈ vis ++ cur) : trail xs vis f cur p = cur := by
  cases f with
  | zero => rfl
  | succ f => rw [trail, if_pos h]
theorem trail_out {xs vis cur : List Int} {n p q : Nat} (hps : Passed n (vis ++ cur)) (hp : p < n) (h : ¬ (p : Int) ∈ vis ++ cur) (hx : xs[p]? = some (q : Int)) :
    trail xs vis (n - (vis ++ cur).length) cur p = trail xs vis (n - (vis ++ (cur ++ [(p : Int)])).length) (cur ++ [(p : Int)]) q := by
  have hl := passed_len (passed_snoc hps hp h)
  have e : n - (vis ++ cur).length = (n - (vis ++ (cur ++ [(p : Int)])).length) + 1 := by simp at hl ⊢; omega
  rw [e, trail, if_neg h]
  simp [hx]
theorem trail_passed {xs vis : List Int} {n : Nat} (hxn : xs.length = n) (hok : okP xs = true) : ∀ (f : Nat) (cur : List Int) (p : Nat), p < n → Passed n (vis ++ cur) → Passed n (vis ++ trail xs vis f cur p)
  | 0, cur, p, _, h => h
  | f + 1, cur, p, hp, h => by
    unfold trail
    split
    · exact h
    · rename_i hn
      have hx : xs[p]? = some xs[p] := List.getElem?_eq_getElem (by omega)
      obtain ⟨q, hq, hlt⟩ := okP_at hok hxn hx
      have e : xs.getD (p : Int).toNat 0 = (q : Int) := by simp [List.getD, show p < xs.length by omega]; exact hq
      rw [e]
      exact trail_passed hxn hok f _ q hlt (by rw [← List.append_assoc]; exact passed_snoc h hp hn)
theorem cycTo_passed {xs : List Int} {n : Nat} (hxn : xs.length = n) (hok : okP xs = true) : ∀ k, k ≤ n → Passed n (cycTo xs n k).flatten
  | 0, _ => ⟨by simp [cycTo], by simp [cycTo]⟩
  | k + 1, hk => by
    have ih := cycTo_passed hxn hok k (by omega)
    unfold cycTo
    split
    · exact ih
    · rw [List.flatten_append]
      simpa using trail_passed hxn hok (n - (cycTo xs n k).flatten.length) [] k (by omega) (by simpa using ih)
theorem cycTo_in {xs : List Int} {n k : Nat} (h : (k : Int) ∈ (cycTo xs n k).flatten) : cycTo xs n (k + 1) = cycTo xs n k := by rw [cycTo, if_pos h]
theorem cycTo_out {xs : List Int} {n k : Nat} (h : ¬ (k : Int) ∈ (cycTo xs n k).flatten) : cycTo xs n (k + 1) = cycTo xs n k ++ [trail xs (cycTo xs n k).flatten (n - (cycTo xs n k).flatten.length) [] k] := by rw [cycTo, if_neg h]
theorem cycTo_le {xs : List Int} {n : Nat} : ∀ k, (cycTo xs n k).length ≤ k
  | 0 => by simp [cycTo]
  | k + 1 => by
    have ih := cycTo_le (xs := xs) (n := n) k
    unfold cycTo
    split
    · omega
    · simp; omega
end Go.Proofs.Ytbjfeogkdfmjpaa
