/- 'append' of one number onto a row of rows that the call owns; plain facts. -/
import Derived.Test.YtckmmgepoccopaaL6
import Derived.Test.YtckmmgepoccopaaBlk
import Derived.Maps.AppendAt
import Derived.StillTailTactics
namespace Go.Proofs.Ytckmmgepoccopaa
open Go.RowKit

/-- 'append' of one element, with the place where the new slice lies. -/
theorem wpList_push_at {P : Program} (w : World) {ops : Array Oper} {rest : List Oper} {o : Oper} {a : Act} {Q : Exit → Act → World → Prop} (hgd : o.guard = none) (s x : Operand) (t e : TypeId)
    (ho : o.op = .call { callee := .builtin .append, args := #[s, x], argTypes := #[t, t] }) (ht : P.underlying t = some (.slice e))
    (z : Value) (bytes : Nat) (hinfo : (P.info? e).map (fun i => (i.zero, i.size, i.bytes)) = some (some z, 1, bytes)) (hz : z.cells.size = 1)
    (base : Nat) (v : Value) (n : Nat) (vs : List Value) (hs : a.eval s = v) (hown : w.ownsRow base e 1 v n vs) (u : Value) (hu : u.oneCell' = true)
    (hx : a.eval x = .slice (some ⟨w.heap.size, 0, none⟩) 1 1) (hn : (n + 1) * bytes ≤ 140737488355328) (hm : n + 1 ≤ 9223372036854775807) (hb : base ≤ w.heap.size)
    (h : ∀ A' c' w', w'.ownsRow base e 1 (.slice A' (n + 1) c') (n + 1) (vs ++ [u]) → (w.alloc (.cells #[u] e)).grownBy w' v.ownBlock → ((Value.slice A' (n + 1) c').ownBlock = v.ownBlock ∨ (Value.slice A' (n + 1) c').ownBlock = some (w.heap.size + 1)) → wpList P ops Q rest (a.put o.dst (.slice A' (n + 1) c')) w') :
    wpList P ops Q (o :: rest) a (w.alloc (.cells #[u] e)) := by
  obtain ⟨i, hi, hzz⟩ := Option.map_eq_some_iff.1 hinfo
  simp only [Prod.mk.injEq] at hzz
  obtain ⟨h1, h2, h3⟩ := hzz
  refine wpList_append_own_at _ hgd s x t ho base e i z 1 bytes ht hi h1 h2 h3 hz (by decide) v n vs hs (hown.alloc _) ⟨w.heap.size, 0, none⟩ 1 1 [u] hx rfl ?_ ?_ (by unfold maxLen; omega) hn (by simp; omega) ?_
  · intro j y hj
    match j, hj with
    | 0, hj =>
      simp at hj
      subst hj
      simp [Addr.add]
  · intro y hy
    simp at hy
    subst hy
    exact hu
  · intro v' w' hown' hg _ hat
    rcases hown'.2 with ⟨_, h0⟩ | ⟨g, cap, cur, rfl, rest⟩
    · omega
    · exact h _ _ _ hown' hg (by simpa using hat)

/-- A number is put behind row k, and the new slice is stored at its place. -/
theorem ownSS_pushrow {w w4 : World} {lo hi e n c k g c1 c4 : Nat} {A1 A4 : Option Addr} {xss : List (List Int)} {xs : List Int} {x : Int} {o : Obj} (h : OwnSS w lo hi e (some ⟨g, 0, none⟩) n c xss) (he : e ≠ 2) (hx : xss[k]? = some xs) (hhi : hi ≤ w.heap.size)
    (hrow : ∀ vals : List Value, w.ownsRow lo e 1 (.slice (some ⟨g, 0, none⟩) n c) n vals → vals[k]? = some (.slice A1 xs.length c1))
    (own4 : w4.ownsRow lo 2 1 (.slice A4 (xs.length + 1) c4) (xs.length + 1) (ints xs ++ [.int .i64 x])) (gr : (w.alloc o).grownBy w4 (Value.slice A1 xs.length c1).ownBlock)
    (hat : (Value.slice A4 (xs.length + 1) c4).ownBlock = (Value.slice A1 xs.length c1).ownBlock ∨ (Value.slice A4 (xs.length + 1) c4).ownBlock = some (w.heap.size + 1)) :
    OwnSS (w4.setCell ⟨g, k, none⟩ (.slice A4 (xs.length + 1) c4)) lo w4.heap.size e (some ⟨g, 0, none⟩) n c (xss.set k (xs ++ [x])) ∧ w4.frozen? ⟨g, k, none⟩ = false ∧ (∃ u, w4.cell? ⟨g, k, none⟩ = some u) ∧ Turns lo hi w (w4.setCell ⟨g, k, none⟩ (.slice A4 (xs.length + 1) c4)) := by
  obtain ⟨vals, h1, hp, h2, h3, h4⟩ := h
  have hk := hrow vals h1
  obtain ⟨A', c', e1, o1, p1⟩ := h3 k xs hx
  rw [hk] at e1
  simp only [Option.some.injEq, Value.slice.injEq] at e1
  obtain ⟨rfl, _, rfl⟩ := e1
  have hgz := gr.size
  simp at hgz
  have hg1 := hp g rfl
  have q1 := (h1.alloc o).kept gr (own_ne (h1.alloc o) (o1.alloc o) he)
  have hst := q1.stored k (.slice A4 (xs.length + 1) c4)
  have r1 := own4.kept hst.2 (own_ne own4 q1 (fun e => he e.symm))
  have hT : Turns lo hi w w4 := (Turns.of_below (below1 w o) (Nat.le_refl _)).trans (Turns.of_grown gr p1)
  refine ⟨⟨vals.set k (.slice A4 (xs.length + 1) c4), hst.1, inB_wide hp (Nat.le_refl _) (by omega), by simp [h2], ?_, ?_⟩, q1.frozenAt k, ⟨_, own_cell q1 hk⟩, hT.trans ((turns_set w4 g k _).wide hg1.1 (by omega))⟩
  · intro j zs hj
    by_cases ej : j = k
    · subst ej
      have hlt : j < xss.length := (List.getElem?_eq_some_iff.1 hx).1
      rw [List.getElem?_set_self hlt] at hj
      injection hj with hj
      subst hj
      have hv : j < vals.length := (List.getElem?_eq_some_iff.1 hk).1
      refine ⟨A4, c4, by rw [List.getElem?_set_self hv]; simp, ?_, ?_⟩
      · have := r1
        simpa [ints] using this
      · have := own_in own4
        simpa using this
    · rw [List.getElem?_set_ne (fun e => ej e.symm)] at hj
      obtain ⟨A2, c2, e2, o2, p2⟩ := h3 j zs hj
      have o3 : w4.ownsRow lo 2 1 (.slice A2 zs.length c2) zs.length (ints zs) := by
        refine (o2.alloc o).kept gr ?_
        cases hb : (Value.slice A2 zs.length c2).ownBlock with
        | none => exact .inl rfl
        | some g' => exact .inr fun h => h4 j k _ _ ej e2 hk g' hb h.symm
      refine ⟨A2, c2, by rw [List.getElem?_set_ne (fun e => ej e.symm)]; exact e2, o3.kept hst.2 (own_ne o3 q1 (fun e => he e.symm)), inB_wide p2 (Nat.le_refl _) (by omega)⟩
  · have hother : ∀ (j : Nat) (v : Value), j ≠ k → vals[j]? = some v → ∀ b, (Value.slice A4 (xs.length + 1) c4).ownBlock = some b → v.ownBlock ≠ some b := by
      intro j v hj hv b hb hvb
      have hjl : j < xss.length := by have := (List.getElem?_eq_some_iff.1 hv).1; have := h1.1; omega
      obtain ⟨A2, c2, e2, o2, p2⟩ := h3 j _ (List.getElem?_eq_getElem hjl)
      rw [hv] at e2
      injection e2 with e2
      subst e2
      have := p2 b hvb
      rcases hat with h | h
      · rw [h] at hb
        exact h4 k j _ _ (fun e => hj e.symm) hk hv b hb hvb
      · rw [h] at hb
        injection hb with hb
        omega
    intro i j u v hij hu hv b hb
    by_cases ei : i = k
    · subst ei
      have hvl : i < vals.length := (List.getElem?_eq_some_iff.1 hk).1
      rw [List.getElem?_set_self hvl] at hu
      injection hu with hu
      subst hu
      rw [List.getElem?_set_ne hij] at hv
      exact hother j v (fun e => hij e.symm) hv b hb
    · rw [List.getElem?_set_ne (fun e => ei e.symm)] at hu
      by_cases ej : j = k
      · subst ej
        have hvl : j < vals.length := (List.getElem?_eq_some_iff.1 hk).1
        rw [List.getElem?_set_self hvl] at hv
        injection hv with hv
        subst hv
        intro hvb
        exact hother i u hij hu b hvb hb
      · rw [List.getElem?_set_ne (fun e => ej e.symm)] at hv
        exact h4 i j u v hij hu hv b hb
/-- The value of row k, and that it is owned. -/
theorem ownSS_rowval {w : World} {lo hi e n c k g : Nat} {xss : List (List Int)} {xs : List Int} (h : OwnSS w lo hi e (some ⟨g, 0, none⟩) n c xss) (hx : xss[k]? = some xs) :
    ∃ (A1 : Option Addr) (c1 : Nat), w.cell? ⟨g, k, none⟩ = some (.slice A1 xs.length c1) ∧ w.ownsRow lo 2 1 (.slice A1 xs.length c1) xs.length (ints xs) ∧ InB (.slice A1 xs.length c1) lo hi ∧
      (∀ vals : List Value, w.ownsRow lo e 1 (.slice (some ⟨g, 0, none⟩) n c) n vals → vals[k]? = some (.slice A1 xs.length c1)) := by
  obtain ⟨vals, h1, hp, h2, h3, h4⟩ := h
  obtain ⟨A', c', e1, o1, p1⟩ := h3 k xs hx
  exact ⟨A', c', own_cell h1 e1, o1, p1, fun vals' h' => by rw [← row_unique h1 h']; exact e1⟩
theorem ownSS_lo {w : World} {lo hi e n c g : Nat} {xss : List (List Int)} (h : OwnSS w lo hi e (some ⟨g, 0, none⟩) n c xss) : lo ≤ g ∧ g < hi := h.choose_spec.2.1 g rfl
/-- Rows that are all nil. -/
theorem ownSS_make (w : World) (n e : Nat) (hn : n ≤ maxLen) : OwnSS (w.alloc (.cells (madeCells #[.slice none 0 0] n) e)) w.heap.size (w.heap.size + 1) e (some ⟨w.heap.size, 0, none⟩) n n (List.replicate n []) := by
  have h := make_own w (.slice none 0 0) n e hn
  refine ⟨List.replicate n (.slice none 0 0), h, fun k hk => by have := h.lt k hk; simp at this; exact ⟨this.1, by omega⟩, by simp, ?_, ?_⟩
  · intro j xs hj
    have hjn : j < n := by have := (List.getElem?_eq_some_iff.1 hj).1; simpa using this
    simp [hjn] at hj
    subst hj
    exact ⟨none, 0, by simp [hjn], World.ownsRow_nil _ _ _ _, fun k hk => by simp [Value.ownBlock] at hk⟩
  · intro i j u v _ hu _ k hk
    have : u = .slice none 0 0 := by
      have := List.mem_of_getElem? hu
      simp at this
      exact this.2
    subst this
    simp [Value.ownBlock] at hk
end Go.Proofs.Ytckmmgepoccopaa
