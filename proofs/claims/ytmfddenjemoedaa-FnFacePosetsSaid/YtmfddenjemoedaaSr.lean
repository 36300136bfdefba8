/- A row of rows that the call owns is replaced; 'append' of a slice onto a row; facts outside the walks. -/
import Derived.Test.YtmfddenjemoedaaTz
import Derived.Test.YtmfddenjemoedaaL12
namespace Go.Proofs.Ytmfddenjemoedaa
open Go.RowKit

/-- Row k was turned (in its own block, or laid anew), and its new slice is stored at its place. -/
theorem ownSS_storerow {w w4 : World} {lo hi e n c k g c1 c4 m : Nat} {A1 A4 : Option Addr} {xss : List (List Int)} {xs ys : List Int} (h : OwnSS w lo hi e (some ⟨g, 0, none⟩) n c xss) (he : e ≠ 2) (hx : xss[k]? = some xs) (hhi : hi ≤ w.heap.size)
    (hrow : ∀ vals : List Value, w.ownsRow lo e 1 (.slice (some ⟨g, 0, none⟩) n c) n vals → vals[k]? = some (.slice A1 xs.length c1)) (hm : ys.length = m)
    (own4 : w4.ownsRow lo 2 1 (.slice A4 m c4) m (ints ys)) (gr : w.grownBy w4 (Value.slice A1 xs.length c1).ownBlock)
    (hat : (Value.slice A4 m c4).ownBlock = (Value.slice A1 xs.length c1).ownBlock ∨ ∀ b, (Value.slice A4 m c4).ownBlock = some b → hi ≤ b) :
    OwnSS (w4.setCell ⟨g, k, none⟩ (.slice A4 m c4)) lo w4.heap.size e (some ⟨g, 0, none⟩) n c (xss.set k ys) ∧ w4.frozen? ⟨g, k, none⟩ = false ∧ (∃ u, w4.cell? ⟨g, k, none⟩ = some u) ∧ Turns lo hi w (w4.setCell ⟨g, k, none⟩ (.slice A4 m c4)) := by
  subst hm
  obtain ⟨vals, h1, hp, h2, h3, h4⟩ := h
  have hk := hrow vals h1
  obtain ⟨A', c', e1, o1, p1⟩ := h3 k xs hx
  rw [hk] at e1
  simp only [Option.some.injEq, Value.slice.injEq] at e1
  obtain ⟨rfl, _, rfl⟩ := e1
  have hgz := gr.size
  have hg1 := hp g rfl
  have q1 := h1.kept gr (own_ne h1 o1 he)
  have hst := q1.stored k (.slice A4 ys.length c4)
  have r1 := own4.kept hst.2 (own_ne own4 q1 (fun e => he e.symm))
  have hT : Turns lo hi w w4 := Turns.of_grown gr p1
  refine ⟨⟨vals.set k (.slice A4 ys.length c4), hst.1, inB_wide hp (Nat.le_refl _) (by omega), by simp [h2], ?_, ?_⟩, q1.frozenAt k, ⟨_, own_cell q1 hk⟩, hT.trans ((turns_set w4 g k _).wide hg1.1 (by omega))⟩
  · intro j zs hj
    by_cases ej : j = k
    · subst ej
      have hlt : j < xss.length := (List.getElem?_eq_some_iff.1 hx).1
      rw [List.getElem?_set_self hlt] at hj
      injection hj with hj
      subst hj
      have hv : j < vals.length := (List.getElem?_eq_some_iff.1 hk).1
      exact ⟨A4, c4, by rw [List.getElem?_set_self hv], r1, own_in own4⟩
    · rw [List.getElem?_set_ne (fun e => ej e.symm)] at hj
      obtain ⟨A2, c2, e2, o2, p2⟩ := h3 j zs hj
      have o3 : w4.ownsRow lo 2 1 (.slice A2 zs.length c2) zs.length (ints zs) := by
        refine o2.kept gr ?_
        cases hb : (Value.slice A2 zs.length c2).ownBlock with
        | none => exact .inl rfl
        | some g' => exact .inr fun h => h4 j k _ _ ej e2 hk g' hb h.symm
      refine ⟨A2, c2, by rw [List.getElem?_set_ne (fun e => ej e.symm)]; exact e2, o3.kept hst.2 (own_ne o3 q1 (fun e => he e.symm)), inB_wide p2 (Nat.le_refl _) (by omega)⟩
  · have hother : ∀ (j : Nat) (v : Value), j ≠ k → vals[j]? = some v → ∀ b, (Value.slice A4 ys.length c4).ownBlock = some b → v.ownBlock ≠ some b := by
      intro j v hj hv b hb hvb
      have hjl : j < xss.length := by have := (List.getElem?_eq_some_iff.1 hv).1; have := h1.1; omega
      obtain ⟨A2, c2, e2, o2, p2⟩ := h3 j _ (List.getElem?_eq_getElem hjl)
      rw [hv] at e2
      injection e2 with e2
      subst e2
      have := p2 b hvb
      rcases hat with h | h
      · rw [h] at hb
        exact h4 k j _ _ (fun e => hj e.symm) hk hv b hb hvb
      · have := h b hb
        omega
    intro i j u v hij hu hv b hb
    by_cases ei : i = k
    · subst ei
      have hvl : i < vals.length := (List.getElem?_eq_some_iff.1 hk).1
      rw [List.getElem?_set_self hvl] at hu
      injection hu with hu
      subst hu
      rw [List.getElem?_set_ne hij] at hv
      exact hother j v (fun e => hij e.symm) hv b hb
    · rw [List.getElem?_set_ne (fun e => ei e.symm)] at hu
      by_cases ej : j = k
      · subst ej
        have hvl : j < vals.length := (List.getElem?_eq_some_iff.1 hk).1
        rw [List.getElem?_set_self hvl] at hv
        injection hv with hv
        subst hv
        intro hvb
        exact hother i u hij hu b hvb hb
      · rw [List.getElem?_set_ne (fun e => ej e.symm)] at hv
        exact h4 i j u v hij hu hv b hb

set_option maxHeartbeats 400000 in
/-- slices.Compact on any slice of int64 that the call owns. -/
theorem compact_all {A : Option Addr} {c n base : Nat} {xs : List Int} (w : World) (hown : w.ownsRow base 2 1 (.slice A n c) n (ints xs)) (hn : n ≤ 1048576) :
    Calls Try.prog 107 #[.slice A n c] w fun e w' => e = .returned (.slice A (cpL xs).length c) ∧ w'.ownsRow base 2 1 (.slice A (cpL xs).length c) (cpL xs).length (ints (cpL xs)) ∧ w.grownBy w' (Value.slice A n c).ownBlock := by
  by_cases h0 : n = 0
  · subst h0
    have hx : xs = [] := by have h1 := hown.1; exact List.eq_nil_of_length_eq_zero (by simpa using h1)
    subst hx
    have HO := Lib.hid hown
    clear hown
    go_enter Try.func107, Try.ntmps107
    go_wp2
    go_ret
    exact ⟨rfl, HO.out, World.grownBy.refl _ _⟩
  · exact compact_any w hown hn (by omega)

/-- The elements below the element e. -/
def BelE (xss : List (List Int)) (n N : Nat) (e : Nat) (x : Int) : Prop := ∃ f i j : Nat, f < n ∧ i < N ∧ j < i ∧ (fcRow xss n N f)[i]? = some (e : Int) ∧ (fcRow xss n N f)[j]? = some x
/-- As far as the flags before f, and of the flag f the ranks before t, are done. -/
def BelTo (xss : List (List Int)) (n N f t : Nat) (e : Nat) (x : Int) : Prop := ∃ f' i j : Nat, (f' < f ∨ (f' = f ∧ i < t)) ∧ f' < n ∧ i < N ∧ j < i ∧ (fcRow xss n N f')[i]? = some (e : Int) ∧ (fcRow xss n N f')[j]? = some x
noncomputable def blwL (xss : List (List Int)) (n N e : Nat) : List Int := ((List.range (fstE xss n N)).filter fun (d : Nat) => pB (BelE xss n N e (d : Int))).map fun (d : Nat) => (d : Int)
section
variable {xss : List (List Int)} {n N f t e : Nat} {x : Int}
theorem belTo_zero : ¬ BelTo xss n N 0 0 e x := fun ⟨f', i, j, h, _⟩ => by omega
theorem belTo_next (ht : N ≤ t) : BelTo xss n N f t e x ↔ BelTo xss n N (f + 1) 0 e x := by
  constructor
  · rintro ⟨f', i, j, h, h1, h2, h3⟩
    exact ⟨f', i, j, .inl (by omega), h1, h2, h3⟩
  · rintro ⟨f', i, j, h, h1, h2, h3⟩
    refine ⟨f', i, j, ?_, h1, h2, h3⟩
    rcases h with h | h
    · by_cases hf : f' = f
      · exact .inr ⟨hf, by omega⟩
      · exact .inl (by omega)
    · omega
theorem belTo_all (hf : n ≤ f) : BelTo xss n N f 0 e x ↔ BelE xss n N e x := by
  constructor
  · rintro ⟨f', i, j, _, h1, h2, h3, h4, h5⟩
    exact ⟨f', i, j, h1, h2, h3, h4, h5⟩
  · rintro ⟨f', i, j, h1, h2, h3, h4, h5⟩
    exact ⟨f', i, j, .inl (by omega), h1, h2, h3, h4, h5⟩
theorem belTo_step (hf : f < n) (ht : t < N) {y : Int} (hy : (fcRow xss n N f)[t]? = some y) : BelTo xss n N f (t + 1) e x ↔ BelTo xss n N f t e x ∨ (y = (e : Int) ∧ x ∈ (fcRow xss n N f).take t) := by
  constructor
  · rintro ⟨f', i, j, h, h1, h2, h3, h4, h5⟩
    by_cases hi : f' = f ∧ i = t
    · obtain ⟨rfl, rfl⟩ := hi
      rw [hy] at h4
      injection h4 with h4
      refine .inr ⟨h4, ?_⟩
      have : ((fcRow xss n N f').take i)[j]? = some x := by rw [List.getElem?_take, if_pos h3]; exact h5
      exact List.mem_of_getElem? this
    · refine .inl ⟨f', i, j, ?_, h1, h2, h3, h4, h5⟩
      rcases h with h | h
      · exact .inl h
      · exact .inr ⟨h.1, by omega⟩
  · rintro (⟨f', i, j, h, h1⟩ | ⟨rfl, h⟩)
    · refine ⟨f', i, j, ?_, h1⟩
      rcases h with h | h
      · exact .inl h
      · exact .inr ⟨h.1, by omega⟩
    · obtain ⟨j, hj, he⟩ := List.mem_iff_getElem.1 h
      have hj2 : j < t ∧ j < (fcRow xss n N f).length := by simp at hj; omega
      refine ⟨f, t, j, .inr ⟨rfl, by omega⟩, hf, ht, hj2.1, hy, ?_⟩
      rw [List.getElem_take] at he
      rw [List.getElem?_eq_getElem hj2.2, he]
end

section
variable {xss : List (List Int)} {n N : Nat}
theorem fstE_mono {i j : Nat} (h : i ≤ j) : fstE xss n i ≤ fstE xss n j := by
  induction j with
  | zero => have : i = 0 := by omega
            subst this; exact Nat.le_refl _
  | succ j ih =>
    by_cases he : i = j + 1
    · subst he; exact Nat.le_refl _
    · have := ih (by omega); simp only [fstE]; omega
theorem fc_bd (hsys : okSys n xss = true) {f i : Nat} {y : Int} (hf : f < n) (hy : (fcRow xss n N f)[i]? = some y) : ∃ e : Nat, y = (e : Int) ∧ fstE xss n i ≤ e ∧ e < fstE xss n (i + 1) ∧ e < fstE xss n N := by
  have hi : i < N := by have := (List.getElem?_eq_some_iff.1 hy).1; rwa [fcRow_len] at this
  have hg : (facL xss n i)[f]? = some ((facL xss n i).getD f 0) := by
    have : f < (facL xss n i).length := by rw [facL_len]; exact hf
    simp [List.getD, this]
  simp [fcRow, hi] at hy
  have hm := List.mem_of_getElem? hg
  have h0 := facL_in hsys _ hm
  have h1 := grtL_gt (l := facL xss n i) n _ (by rw [List.take_of_length_le (by rw [facL_len]; omega)]; exact hm)
  rw [List.take_of_length_le (by rw [facL_len]; omega)] at h1
  have h2 := grt_fac (i := i) hsys
  obtain ⟨k, hk⟩ := Int.eq_ofNat_of_zero_le h0.1
  have h3 : k < cN xss n i := by unfold cN; omega
  have h4 := fstE_mono (xss := xss) (n := n) (show i + 1 ≤ N by omega)
  refine ⟨fstE xss n i + k, ?_, by omega, by simp only [fstE]; omega, by simp only [fstE] at h4; omega⟩
  rw [← hy]
  simp only [List.getD] at hk
  rw [hk]
  omega
end
end Go.Proofs.Ytmfddenjemoedaa
