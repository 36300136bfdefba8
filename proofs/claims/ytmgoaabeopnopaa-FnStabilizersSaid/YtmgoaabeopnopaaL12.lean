import Derived.Test.YtmgoaabeopnopaaL1
import Derived.OneCell
import Derived.Test.YtmgoaabeopnopaaL6
import Derived.Maps.AppendAt
import Derived.StillTailTactics
import Derived.Deep.RegionLaw
/- A block known whole: its cells, and what it is behind stores. Plain facts. -/
namespace Go.Proofs.Ytmgoaabeopnopaa
open Go.RowKit

/-- The block g holds the cells cs, and may be written. -/
def Blk (w : World) (g : Nat) (cs : Array Value) (t : TypeId) : Prop := w.heap[g]? = some (.cells cs t (0, 0))
section
variable {w w' : World} {g i : Nat} {cs : Array Value} {t : TypeId} {v : Value}
theorem Blk.cell (h : Blk w g cs t) (hi : cs[i]? = some v) : w.cell? ⟨g, i, none⟩ = some v := by
  have h2 : w.heap[g]? = some (.cells cs t (0, 0)) := h
  simp [World.cell?, h2, hi]
theorem Blk.free (h : Blk w g cs t) (i : Nat) : w.frozen? ⟨g, i, none⟩ = false := by
  have h2 : w.heap[g]? = some (.cells cs t (0, 0)) := h
  simp [World.frozen?, h2]
theorem Blk.lt (h : Blk w g cs t) : g < w.heap.size := lt_of_block h
theorem Blk.be {B : Nat} (h : Blk w g cs t) (hb : Below B w w') (hg : g < B) : Blk w' g cs t := (hb.block g hg).trans h
theorem Blk.go (h : Blk w g cs t) (hb : Below w.heap.size w w') : Blk w' g cs t := h.be hb h.lt
theorem Blk.new (w : World) (cs : Array Value) (t : TypeId) : Blk (w.alloc (.cells cs t)) w.heap.size cs t := heap_alloc_new w _
theorem Blk.set (h : Blk w g cs t) (i : Nat) (u : Value) : Blk (w.setCell ⟨g, i, none⟩ u) g (cs.setIfInBounds i u) t := by
  have hlt := h.lt
  have h2 : w.heap[g]? = some (.cells cs t (0, 0)) := h
  have h' : w.heap[g] = .cells cs t (0, 0) := by simpa [Array.getElem?_eq_getElem hlt] using h2
  show (w.heap.modify g _)[g]? = _
  rw [Array.getElem?_eq_getElem (by simpa using hlt), Array.getElem_modify_self, h']
  rfl
theorem Blk.set_ne (h : Blk w g cs t) {k : Nat} (hk : k ≠ g) (i : Nat) (u : Value) : Blk (w.setCell ⟨k, i, none⟩ u) g cs t := by
  have h2 : w.heap[g]? = some (.cells cs t (0, 0)) := h
  show (w.heap.modify k _)[g]? = _
  rw [Array.getElem?_modify, if_neg hk, h2]
theorem Blk.turns {lo hi : Nat} (h : Blk w g cs t) (tu : Turns lo hi w w') (hg : g < lo ∨ hi ≤ g) : Blk w' g cs t := (tu.block g h.lt hg).trans h
end
theorem turns_set (w : World) (g b : Nat) (v : Value) : Turns g (g + 1) w (w.setCell ⟨g, b, none⟩ v) :=
  ⟨rfl, rfl, rfl, by simp, fun k _ hr => by
    have hne : g ≠ k := by omega
    simp [World.setCell, Array.getElem?_modify, hne]⟩
theorem own_turns2 {w : World} {base e n c lo hi : Nat} {A : Option Addr} {vs : List Value} (h : w.ownsRow base e 1 (.slice A n c) n vs) (hp : InB (.slice A n c) lo hi) (g b : Nat) (v : Value) (hg : g < lo ∨ hi ≤ g) : (w.setCell ⟨g, b, none⟩ v).ownsRow base e 1 (.slice A n c) n vs :=
  (turns_set w g b v).own h hp (by omega)
end Go.Proofs.Ytmgoaabeopnopaa
/- 'append' of one number onto a row of rows that the call owns; plain facts. -/
namespace Go.Proofs.Ytmgoaabeopnopaa
open Go.RowKit

/-- 'append' of one element, with the place where the new slice lies. -/
theorem wpList_push_at {P : Program} (w : World) {ops : Array Oper} {rest : List Oper} {o : Oper} {a : Act} {Q : Exit → Act → World → Prop} (hgd : o.guard = none) (s x : Operand) (t e : TypeId)
    (ho : o.op = .call { callee := .builtin .append, args := #[s, x], argTypes := #[t, t] }) (ht : P.underlying t = some (.slice e))
    (z : Value) (bytes : Nat) (hinfo : (P.info? e).map (fun i => (i.zero, i.size, i.bytes)) = some (some z, 1, bytes)) (hz : z.cells.size = 1)
    (base : Nat) (v : Value) (n : Nat) (vs : List Value) (hs : a.eval s = v) (hown : w.ownsRow base e 1 v n vs) (u : Value) (hu : u.oneCell' = true)
    (hx : a.eval x = .slice (some ⟨w.heap.size, 0, none⟩) 1 1) (hn : (n + 1) * bytes ≤ 140737488355328) (hm : n + 1 ≤ 9223372036854775807) (hb : base ≤ w.heap.size)
    (h : ∀ A' c' w', w'.ownsRow base e 1 (.slice A' (n + 1) c') (n + 1) (vs ++ [u]) → (w.alloc (.cells #[u] e)).grownBy w' v.ownBlock → ((Value.slice A' (n + 1) c').ownBlock = v.ownBlock ∨ (Value.slice A' (n + 1) c').ownBlock = some (w.heap.size + 1)) → wpList P ops Q rest (a.put o.dst (.slice A' (n + 1) c')) w') :
    wpList P ops Q (o :: rest) a (w.alloc (.cells #[u] e)) := by
  obtain ⟨i, hi, hzz⟩ := Option.map_eq_some_iff.1 hinfo
  simp only [Prod.mk.injEq] at hzz
  obtain ⟨h1, h2, h3⟩ := hzz
  refine wpList_append_own_at _ hgd s x t ho base e i z 1 bytes ht hi h1 h2 h3 hz (by decide) v n vs hs (hown.alloc _) ⟨w.heap.size, 0, none⟩ 1 1 [u] hx rfl ?_ ?_ (by unfold maxLen; omega) hn (by simp; omega) ?_
  · intro j y hj
    match j, hj with
    | 0, hj =>
      simp at hj
      subst hj
      simp [Addr.add]
  · intro y hy
    simp at hy
    subst hy
    exact hu
  · intro v' w' hown' hg _ hat
    rcases hown'.2 with ⟨_, h0⟩ | ⟨g, cap, cur, rfl, rest⟩
    · omega
    · exact h _ _ _ hown' hg (by simpa using hat)

/-- A number is put behind row k, and the new slice is stored at its place. -/
theorem ownSS_pushrow {w w4 : World} {lo hi e n c k g c1 c4 : Nat} {A1 A4 : Option Addr} {xss : List (List Int)} {xs : List Int} {x : Int} {o : Obj} (h : OwnSS w lo hi e (some ⟨g, 0, none⟩) n c xss) (he : e ≠ 2) (hx : xss[k]? = some xs) (hhi : hi ≤ w.heap.size)
    (hrow : ∀ vals : List Value, w.ownsRow lo e 1 (.slice (some ⟨g, 0, none⟩) n c) n vals → vals[k]? = some (.slice A1 xs.length c1))
    (own4 : w4.ownsRow lo 2 1 (.slice A4 (xs.length + 1) c4) (xs.length + 1) (ints xs ++ [.int .i64 x])) (gr : (w.alloc o).grownBy w4 (Value.slice A1 xs.length c1).ownBlock)
    (hat : (Value.slice A4 (xs.length + 1) c4).ownBlock = (Value.slice A1 xs.length c1).ownBlock ∨ (Value.slice A4 (xs.length + 1) c4).ownBlock = some (w.heap.size + 1)) :
    OwnSS (w4.setCell ⟨g, k, none⟩ (.slice A4 (xs.length + 1) c4)) lo w4.heap.size e (some ⟨g, 0, none⟩) n c (xss.set k (xs ++ [x])) ∧ w4.frozen? ⟨g, k, none⟩ = false ∧ (∃ u, w4.cell? ⟨g, k, none⟩ = some u) ∧ Turns lo hi w (w4.setCell ⟨g, k, none⟩ (.slice A4 (xs.length + 1) c4)) := by
  obtain ⟨vals, h1, hp, h2, h3, h4⟩ := h
  have hk := hrow vals h1
  obtain ⟨A', c', e1, o1, p1⟩ := h3 k xs hx
  rw [hk] at e1
  simp only [Option.some.injEq, Value.slice.injEq] at e1
  obtain ⟨rfl, _, rfl⟩ := e1
  have hgz := gr.size
  simp at hgz
  have hg1 := hp g rfl
  have q1 := (h1.alloc o).kept gr (own_ne (h1.alloc o) (o1.alloc o) he)
  have hst := q1.stored k (.slice A4 (xs.length + 1) c4)
  have r1 := own4.kept hst.2 (own_ne own4 q1 (fun e => he e.symm))
  have hT : Turns lo hi w w4 := (Turns.of_below (below1 w o) (Nat.le_refl _)).trans (Turns.of_grown gr p1)
  refine ⟨⟨vals.set k (.slice A4 (xs.length + 1) c4), hst.1, inB_wide hp (Nat.le_refl _) (by omega), by simp [h2], ?_, ?_⟩, q1.frozenAt k, ⟨_, own_cell q1 hk⟩, hT.trans ((turns_set w4 g k _).wide hg1.1 (by omega))⟩
  · intro j zs hj
    by_cases ej : j = k
    · subst ej
      have hlt : j < xss.length := (List.getElem?_eq_some_iff.1 hx).1
      rw [List.getElem?_set_self hlt] at hj
      injection hj with hj
      subst hj
      have hv : j < vals.length := (List.getElem?_eq_some_iff.1 hk).1
      refine ⟨A4, c4, by rw [List.getElem?_set_self hv]; simp, ?_, ?_⟩
      · have := r1
        simpa [ints] using this
      · have := own_in own4
        simpa using this
    · rw [List.getElem?_set_ne (fun e => ej e.symm)] at hj
      obtain ⟨A2, c2, e2, o2, p2⟩ := h3 j zs hj
      have o3 : w4.ownsRow lo 2 1 (.slice A2 zs.length c2) zs.length (ints zs) := by
        refine (o2.alloc o).kept gr ?_
        cases hb : (Value.slice A2 zs.length c2).ownBlock with
        | none => exact .inl rfl
        | some g' => exact .inr fun h => h4 j k _ _ ej e2 hk g' hb h.symm
      refine ⟨A2, c2, by rw [List.getElem?_set_ne (fun e => ej e.symm)]; exact e2, o3.kept hst.2 (own_ne o3 q1 (fun e => he e.symm)), inB_wide p2 (Nat.le_refl _) (by omega)⟩
  · have hother : ∀ (j : Nat) (v : Value), j ≠ k → vals[j]? = some v → ∀ b, (Value.slice A4 (xs.length + 1) c4).ownBlock = some b → v.ownBlock ≠ some b := by
      intro j v hj hv b hb hvb
      have hjl : j < xss.length := by have := (List.getElem?_eq_some_iff.1 hv).1; have := h1.1; omega
      obtain ⟨A2, c2, e2, o2, p2⟩ := h3 j _ (List.getElem?_eq_getElem hjl)
      rw [hv] at e2
      injection e2 with e2
      subst e2
      have := p2 b hvb
      rcases hat with h | h
      · rw [h] at hb
        exact h4 k j _ _ (fun e => hj e.symm) hk hv b hb hvb
      · rw [h] at hb
        injection hb with hb
        omega
    intro i j u v hij hu hv b hb
    by_cases ei : i = k
    · subst ei
      have hvl : i < vals.length := (List.getElem?_eq_some_iff.1 hk).1
      rw [List.getElem?_set_self hvl] at hu
      injection hu with hu
      subst hu
      rw [List.getElem?_set_ne hij] at hv
      exact hother j v (fun e => hij e.symm) hv b hb
    · rw [List.getElem?_set_ne (fun e => ei e.symm)] at hu
      by_cases ej : j = k
      · subst ej
        have hvl : j < vals.length := (List.getElem?_eq_some_iff.1 hk).1
        rw [List.getElem?_set_self hvl] at hv
        injection hv with hv
        subst hv
        intro hvb
        exact hother i u hij hu b hvb hb
      · rw [List.getElem?_set_ne (fun e => ej e.symm)] at hv
        exact h4 i j u v hij hu hv b hb
/-- The value of row k, and that it is owned. -/
theorem ownSS_rowval {w : World} {lo hi e n c k g : Nat} {xss : List (List Int)} {xs : List Int} (h : OwnSS w lo hi e (some ⟨g, 0, none⟩) n c xss) (hx : xss[k]? = some xs) :
    ∃ (A1 : Option Addr) (c1 : Nat), w.cell? ⟨g, k, none⟩ = some (.slice A1 xs.length c1) ∧ w.ownsRow lo 2 1 (.slice A1 xs.length c1) xs.length (ints xs) ∧ InB (.slice A1 xs.length c1) lo hi ∧
      (∀ vals : List Value, w.ownsRow lo e 1 (.slice (some ⟨g, 0, none⟩) n c) n vals → vals[k]? = some (.slice A1 xs.length c1)) := by
  obtain ⟨vals, h1, hp, h2, h3, h4⟩ := h
  obtain ⟨A', c', e1, o1, p1⟩ := h3 k xs hx
  exact ⟨A', c', own_cell h1 e1, o1, p1, fun vals' h' => by rw [← row_unique h1 h']; exact e1⟩
theorem ownSS_lo {w : World} {lo hi e n c g : Nat} {xss : List (List Int)} (h : OwnSS w lo hi e (some ⟨g, 0, none⟩) n c xss) : lo ≤ g ∧ g < hi := h.choose_spec.2.1 g rfl
/-- Rows that are all nil. -/
theorem ownSS_make (w : World) (n e : Nat) (hn : n ≤ maxLen) : OwnSS (w.alloc (.cells (madeCells #[.slice none 0 0] n) e)) w.heap.size (w.heap.size + 1) e (some ⟨w.heap.size, 0, none⟩) n n (List.replicate n []) := by
  have h := make_own w (.slice none 0 0) n e hn
  refine ⟨List.replicate n (.slice none 0 0), h, fun k hk => by have := h.lt k hk; simp at this; exact ⟨this.1, by omega⟩, by simp, ?_, ?_⟩
  · intro j xs hj
    have hjn : j < n := by have := (List.getElem?_eq_some_iff.1 hj).1; simpa using this
    simp [hjn] at hj
    subst hj
    exact ⟨none, 0, by simp [hjn], World.ownsRow_nil _ _ _ _, fun k hk => by simp [Value.ownBlock] at hk⟩
  · intro i j u v _ hu _ k hk
    have : u = .slice none 0 0 := by
      have := List.mem_of_getElem? hu
      simp at this
      exact this.2
    subst this
    simp [Value.ownBlock] at hk
end Go.Proofs.Ytmgoaabeopnopaa
/- Pieces of memory that lie apart: what a call has made so far, piece by piece. Plain facts. -/
namespace Go.Proofs.Ytmgoaabeopnopaa
open Go.RowKit

/-- A piece of memory: what a world must hold in the blocks F; it stays where those blocks stay. -/
structure Pc where
  holds : World → (Nat → Prop) → Prop
  kept : ∀ {w w' : World} {F : Nat → Prop}, holds w F → (∀ k, F k → w'.heap[k]? = w.heap[k]?) → holds w' F
/-- The pieces lie apart from each other, all of them in blocks from lo on. -/
def Sep (w : World) (lo : Nat) (Ps : List Pc) : Prop :=
  ∃ Fs : Nat → Nat → Prop, (∀ (i : Nat) (P : Pc), Ps[i]? = some P → P.holds w (Fs i)) ∧ (∀ i k, i < Ps.length → Fs i k → lo ≤ k ∧ k < w.heap.size) ∧ ∀ i j k, i < Ps.length → j < Ps.length → i ≠ j → Fs i k → ¬ Fs j k

theorem own_block_kept {w w' : World} {base e n c : Nat} {A : Option Addr} {vs : List Value} (h : w.ownsRow base e 1 (.slice A n c) n vs) (hk : ∀ k, (Value.slice A n c).ownBlock = some k → w'.heap[k]? = w.heap[k]?) : w'.ownsRow base e 1 (.slice A n c) n vs := by
  refine ⟨h.1, ?_⟩
  rcases h.2 with hn | ⟨g, cap, cur, hv, hb, hg, rest⟩
  · exact .inl hn
  · exact .inr ⟨g, cap, cur, hv, hb, by rw [hk g (by rw [hv]; rfl)]; exact hg, rest⟩
theorem own_base_up {w : World} {base base' e n c : Nat} {A : Option Addr} {vs : List Value} (h : w.ownsRow base e 1 (.slice A n c) n vs) (hk : ∀ k, (Value.slice A n c).ownBlock = some k → base' ≤ k) : w.ownsRow base' e 1 (.slice A n c) n vs := by
  refine ⟨h.1, ?_⟩
  rcases h.2 with hn | ⟨g, cap, cur, hv, hb, rest⟩
  · exact .inl hn
  · exact .inr ⟨g, cap, cur, hv, hk g (by rw [hv]; rfl), rest⟩

namespace Pc
def emp : Pc := ⟨fun _ _ => True, fun _ _ => trivial⟩
/-- A slice that the call owns. -/
def own (e : TypeId) (A : Option Addr) (n c : Nat) (vs : List Value) : Pc :=
  ⟨fun w F => w.ownsRow 0 e 1 (.slice A n c) n vs ∧ ∀ k, (Value.slice A n c).ownBlock = some k → F k, fun h hk => ⟨own_block_kept h.1 fun k e => hk k (h.2 k e), h.2⟩⟩
/-- A block known whole. -/
def blk (g : Nat) (cs : Array Value) (t : TypeId) : Pc :=
  ⟨fun w F => Blk w g cs t ∧ F g, fun h hk => ⟨(hk _ h.2).trans h.1, h.2⟩⟩
/-- Rows of numbers of the type t, each in a block of its own. -/
def rows (t e : TypeId) (A : Option Addr) (n c : Nat) (vals : List Value) (xss : List (List Int)) : Pc :=
  ⟨fun w F => w.ownsRow 0 e 1 (.slice A n c) n vals ∧ (∀ k, (Value.slice A n c).ownBlock = some k → F k) ∧ xss.length = n ∧
      (∀ (j : Nat) (xs : List Int), xss[j]? = some xs → ∃ (A' : Option Addr) (c' : Nat), vals[j]? = some (Value.slice A' xs.length c') ∧ w.ownsRow 0 t 1 (.slice A' xs.length c') xs.length (ints xs) ∧ ∀ k, (Value.slice A' xs.length c').ownBlock = some k → F k) ∧
      (∀ (i j : Nat) (u v : Value), i ≠ j → vals[i]? = some u → vals[j]? = some v → ∀ k, u.ownBlock = some k → v.ownBlock ≠ some k),
    fun h hk => by
      obtain ⟨h1, h2, h3, h4, h5⟩ := h
      exact ⟨own_block_kept h1 fun k e => hk k (h2 k e), h2, h3, fun j xs hj => by obtain ⟨A', c', a1, a2, a3⟩ := h4 j xs hj; exact ⟨A', c', a1, own_block_kept a2 fun k e => hk k (a3 k e), a3⟩, h5⟩⟩
end Pc

section
variable {w wm w4 w' : World} {lo i j : Nat} {Ps Qs : List Pc} {P P' : Pc}
theorem Sep.nil (w : World) (lo : Nat) : Sep w lo [] := ⟨fun _ _ => False, by simp, by simp, by simp⟩
theorem Sep.piece (h : Sep w lo Ps) (hi : Ps[i]? = some P) : ∃ F, P.holds w F ∧ ∀ k, F k → lo ≤ k ∧ k < w.heap.size := by
  obtain ⟨Fs, h1, h2, h3⟩ := h
  exact ⟨Fs i, h1 i P hi, fun k hk => h2 i k (List.getElem?_eq_some_iff.1 hi).1 hk⟩
/-- One piece turns; blocks of no other piece do. -/
theorem Sep.step (h : Sep w lo Ps) (hi : Ps[i]? = some P) (hs : w.heap.size ≤ w'.heap.size) (hlo : lo ≤ w.heap.size)
    (hP : ∀ F, P.holds w F → (∀ k, F k → lo ≤ k ∧ k < w.heap.size) → ∃ F', P'.holds w' F' ∧ (∀ k, F' k → F k ∨ (w.heap.size ≤ k ∧ k < w'.heap.size)) ∧ ∀ k, k < w.heap.size → ¬ F k → w'.heap[k]? = w.heap[k]?) : Sep w' lo (Ps.set i P') := by
  obtain ⟨Fs, h1, h2, h3⟩ := h
  have hil : i < Ps.length := (List.getElem?_eq_some_iff.1 hi).1
  obtain ⟨F', g1, g2, g3⟩ := hP (Fs i) (h1 i P hi) (fun k hk => h2 i k hil hk)
  refine ⟨fun j k => if j = i then F' k else Fs j k, fun j Q hj => ?_, fun j k hj hk => ?_, fun a b k ha hb hab hk hkb => ?_⟩
  · by_cases e : j = i
    · subst e
      rw [List.getElem?_set_self hil] at hj
      injection hj with hj
      subst hj
      simpa using g1
    · rw [List.getElem?_set_ne (fun h => e h.symm)] at hj
      have hjl : j < Ps.length := (List.getElem?_eq_some_iff.1 hj).1
      simp only [if_neg e]
      exact Q.kept (h1 j Q hj) fun k hk => g3 k (h2 j k hjl hk).2 (h3 j i k hjl hil e hk)
  · rw [List.length_set] at hj
    by_cases e : j = i
    · simp only [if_pos e] at hk
      rcases g2 k hk with h | h
      · have := h2 i k hil h; omega
      · omega
    · simp only [if_neg e] at hk
      have := h2 j k hj hk
      omega
  · rw [List.length_set] at ha hb
    by_cases ea : a = i
    · have eb : b ≠ i := fun h => hab (ea.trans h.symm)
      simp only [if_pos ea] at hk
      simp only [if_neg eb] at hkb
      rcases g2 k hk with h | h
      · exact h3 i b k hil hb (fun h => eb h.symm) h hkb
      · have := h2 b k hb hkb; omega
    · simp only [if_neg ea] at hk
      by_cases eb : b = i
      · simp only [if_pos eb] at hkb
        rcases g2 k hkb with h | h
        · exact h3 a i k ha hil ea hk h
        · have := h2 a k ha hk; omega
      · simp only [if_neg eb] at hkb
        exact h3 a b k ha hb hab hk hkb
/-- Two pieces turn, the second one goes over into the first one. -/
theorem Sep.merge {R : Pc} (h : Sep w lo Ps) (hi : Ps[i]? = some P) (hj : Ps[j]? = some R) (hij : i ≠ j) (hs : w.heap.size ≤ w'.heap.size) (hlo : lo ≤ w.heap.size)
    (hP : ∀ F G, P.holds w F → R.holds w G → (∀ k, F k → lo ≤ k ∧ k < w.heap.size) → (∀ k, G k → lo ≤ k ∧ k < w.heap.size) → (∀ k, F k → ¬ G k) → ∃ F', P'.holds w' F' ∧ (∀ k, F' k → F k ∨ G k ∨ (w.heap.size ≤ k ∧ k < w'.heap.size)) ∧ ∀ k, k < w.heap.size → ¬ F k → ¬ G k → w'.heap[k]? = w.heap[k]?) : Sep w' lo ((Ps.set i P').set j Pc.emp) := by
  obtain ⟨Fs, h1, h2, h3⟩ := h
  have hil : i < Ps.length := (List.getElem?_eq_some_iff.1 hi).1
  have hjl : j < Ps.length := (List.getElem?_eq_some_iff.1 hj).1
  obtain ⟨F', g1, g2, g3⟩ := hP (Fs i) (Fs j) (h1 i P hi) (h1 j R hj) (fun k hk => h2 i k hil hk) (fun k hk => h2 j k hjl hk) (fun k hk => h3 i j k hil hjl hij hk)
  refine ⟨fun a k => if a = j then False else if a = i then F' k else Fs a k, fun a Q ha => ?_, fun a k ha hk => ?_, fun a b k ha hb hab hk hkb => ?_⟩
  · by_cases e : a = j
    · subst e
      rw [List.getElem?_set_self (by rw [List.length_set]; exact hjl)] at ha
      injection ha with ha
      subst ha
      trivial
    · rw [List.getElem?_set_ne (fun h => e h.symm)] at ha
      simp only [if_neg e]
      by_cases ei : a = i
      · subst ei
        rw [List.getElem?_set_self hil] at ha
        injection ha with ha
        subst ha
        simpa using g1
      · rw [List.getElem?_set_ne (fun h => ei h.symm)] at ha
        have hal : a < Ps.length := (List.getElem?_eq_some_iff.1 ha).1
        simp only [if_neg ei]
        exact Q.kept (h1 a Q ha) fun k hk => g3 k (h2 a k hal hk).2 (h3 a i k hal hil ei hk) (h3 a j k hal hjl e hk)
  · rw [List.length_set, List.length_set] at ha
    by_cases e : a = j
    · simp only [if_pos e] at hk
    · simp only [if_neg e] at hk
      by_cases ei : a = i
      · simp only [if_pos ei] at hk
        rcases g2 k hk with h | h | h
        · have := h2 i k hil h; omega
        · have := h2 j k hjl h; omega
        · omega
      · simp only [if_neg ei] at hk
        have := h2 a k ha hk
        omega
  · rw [List.length_set, List.length_set] at ha hb
    by_cases ea : a = j
    · simp only [if_pos ea] at hk
    · by_cases eb : b = j
      · simp only [if_pos eb] at hkb
      · simp only [if_neg ea] at hk
        simp only [if_neg eb] at hkb
        by_cases ea' : a = i
        · have eb' : b ≠ i := fun h => hab (ea'.trans h.symm)
          simp only [if_pos ea'] at hk
          simp only [if_neg eb'] at hkb
          rcases g2 k hk with h | h | h
          · exact h3 i b k hil hb (fun h => eb' h.symm) h hkb
          · exact h3 j b k hjl hb (fun h => eb h.symm) h hkb
          · have := h2 b k hb hkb; omega
        · simp only [if_neg ea'] at hk
          by_cases eb' : b = i
          · simp only [if_pos eb'] at hkb
            rcases g2 k hkb with h | h | h
            · exact h3 a i k ha hil ea' hk h
            · exact h3 a j k ha hjl ea hk h
            · have := h2 a k ha hk; omega
          · simp only [if_neg eb'] at hkb
            exact h3 a b k ha hb hab hk hkb
theorem Sep.go (h : Sep w lo Ps) (hb : Below w.heap.size w w') : Sep w' lo Ps := by
  obtain ⟨Fs, h1, h2, h3⟩ := h
  refine ⟨Fs, fun i P hi => P.kept (h1 i P hi) fun k hk => hb.block k (h2 i k (List.getElem?_eq_some_iff.1 hi).1 hk).2, fun i k hi hk => ?_, h3⟩
  have := h2 i k hi hk
  have := hb.size
  omega
theorem Sep.add {F : Nat → Prop} (h : Sep w lo Ps) (hb : Below w.heap.size w w') (hP : P.holds w' F) (hF : ∀ k, F k → w.heap.size ≤ k ∧ k < w'.heap.size) (hlo : lo ≤ w.heap.size) : Sep w' lo (Ps ++ [P]) := by
  obtain ⟨Fs, h1, h2, h3⟩ := h
  have hs := hb.size
  refine ⟨fun j k => if j = Ps.length then F k else Fs j k, fun j Q hj => ?_, fun j k hj hk => ?_, fun a b k ha hb' hab hk hkb => ?_⟩
  · by_cases e : j = Ps.length
    · subst e
      simp at hj
      subst hj
      simpa using hP
    · have hjl : j < Ps.length := by have := (List.getElem?_eq_some_iff.1 hj).1; simp at this; omega
      rw [List.getElem?_append_left hjl] at hj
      simp only [if_neg e]
      exact Q.kept (h1 j Q hj) fun k hk => hb.block k (h2 j k hjl hk).2
  · simp at hj
    by_cases e : j = Ps.length
    · simp only [if_pos e] at hk
      have := hF k hk
      omega
    · simp only [if_neg e] at hk
      have := h2 j k (by omega) hk
      omega
  · simp at ha hb'
    by_cases ea : a = Ps.length
    · have eb : b ≠ Ps.length := fun h => hab (ea.trans h.symm)
      simp only [if_pos ea] at hk
      simp only [if_neg eb] at hkb
      have := hF k hk
      have := h2 b k (by omega) hkb
      omega
    · simp only [if_neg ea] at hk
      by_cases eb : b = Ps.length
      · simp only [if_pos eb] at hkb
        have := hF k hkb
        have := h2 a k (by omega) hk
        omega
      · simp only [if_neg eb] at hkb
        exact h3 a b k (by omega) (by omega) hab hk hkb
/-- Fewer pieces, in whatever order: each of the new ones is one of the old ones. -/
theorem Sep.pick (h : Sep w lo Ps) (f : Nat → Nat) (hf : ∀ i, i < Qs.length → f i < Ps.length) (hg : ∀ i, i < Qs.length → Qs[i]? = Ps[f i]?) (hinj : ∀ i j, i < Qs.length → j < Qs.length → i ≠ j → f i ≠ f j) : Sep w lo Qs := by
  obtain ⟨Fs, h1, h2, h3⟩ := h
  refine ⟨fun i => Fs (f i), fun i P hi => ?_, fun i k hi hk => h2 _ k (hf i hi) hk, fun a b k ha hb hab => h3 _ _ k (hf a ha) (hf b hb) (hinj a b ha hb hab)⟩
  have hl := (List.getElem?_eq_some_iff.1 hi).1
  exact h1 _ P (by rw [← hg i hl]; exact hi)
theorem Sep.take (h : Sep w lo Ps) (n : Nat) : Sep w lo (Ps.take n) := by
  refine h.pick id (fun i hi => by simp at hi; simp; omega) (fun i hi => ?_) (fun i j _ _ h => h)
  simp at hi
  rw [List.getElem?_take, if_pos (by omega)]
  rfl
theorem Sep.low {lo' : Nat} (h : Sep w lo Ps) (hl : lo' ≤ lo) : Sep w lo' Ps := by
  obtain ⟨Fs, h1, h2, h3⟩ := h
  exact ⟨Fs, h1, fun i k hi hk => by have := h2 i k hi hk; omega, h3⟩
end

section
variable {w wm w4 w' : World} {lo i j : Nat} {Ps : List Pc} {t e n c g k : Nat} {A : Option Addr} {vs vals : List Value} {xss : List (List Int)} {xs ys : List Int} {cs : Array Value} {u : Value}
/-- What is read off the pieces. -/
theorem Sep.own (h : Sep w lo Ps) (hi : Ps[i]? = some (.own e A n c vs)) : w.ownsRow lo e 1 (.slice A n c) n vs := by
  obtain ⟨F, h1, h2⟩ := h.piece hi
  exact own_base_up h1.1 fun k hk => (h2 k (h1.2 k hk)).1
theorem Sep.blk (h : Sep w lo Ps) (hi : Ps[i]? = some (.blk g cs t)) : Blk w g cs t ∧ lo ≤ g := by
  obtain ⟨F, h1, h2⟩ := h.piece hi
  exact ⟨h1.1, (h2 g h1.2).1⟩
theorem Sep.rows (h : Sep w lo Ps) (hi : Ps[i]? = some (.rows t e A n c vals xss)) : w.ownsRow lo e 1 (.slice A n c) n vals := by
  obtain ⟨F, h1, h2⟩ := h.piece hi
  exact own_base_up h1.1 fun k hk => (h2 k (h1.2.1 k hk)).1
theorem Sep.rows_len (h : Sep w lo Ps) (hi : Ps[i]? = some (.rows t e A n c vals xss)) : xss.length = n := by
  obtain ⟨F, h1, h2⟩ := h.piece hi
  exact h1.2.2.1
theorem Sep.rowAt (h : Sep w lo Ps) (hi : Ps[i]? = some (.rows t e A n c vals xss)) (hk : xss[k]? = some xs) :
    ∃ (A' : Option Addr) (c' : Nat), vals[k]? = some (Value.slice A' xs.length c') ∧ w.ownsRow lo t 1 (.slice A' xs.length c') xs.length (ints xs) := by
  obtain ⟨F, h1, h2⟩ := h.piece hi
  obtain ⟨A', c', a1, a2, a3⟩ := h1.2.2.2.1 k xs hk
  exact ⟨A', c', a1, own_base_up a2 fun k hk => (h2 k (a3 k hk)).1⟩
theorem Sep.ownSS (h : Sep w lo Ps) (hi : Ps[i]? = some (.rows 2 e A n c vals xss)) : OwnSS w lo w.heap.size e A n c xss := by
  obtain ⟨F, h1, h2⟩ := h.piece hi
  obtain ⟨g1, g2, g3, g4, g5⟩ := h1
  refine ⟨vals, own_base_up g1 fun k hk => (h2 k (g2 k hk)).1, fun k hk => h2 k (g2 k hk), g3, fun j xs hj => ?_, g5⟩
  obtain ⟨A', c', a1, a2, a3⟩ := g4 j xs hj
  exact ⟨A', c', a1, own_base_up a2 fun k hk => (h2 k (a3 k hk)).1, fun k hk => h2 k (a3 k hk)⟩
/-- New pieces. -/
theorem Sep.addOwn {base : Nat} (h : Sep w lo Ps) (hb : Below w.heap.size w w') (ho : w'.ownsRow base e 1 (.slice A n c) n vs) (hbase : w.heap.size ≤ base) (hlo : lo ≤ w.heap.size) : Sep w' lo (Ps ++ [.own e A n c vs]) :=
  h.add (F := fun k => (Value.slice A n c).ownBlock = some k) hb ⟨own_base ho (Nat.zero_le _), fun k hk => hk⟩ (fun k hk => by have := ho.lt k hk; omega) hlo
theorem Sep.addBlk (h : Sep w lo Ps) (cs : Array Value) (t : TypeId) (hlo : lo ≤ w.heap.size) : Sep (w.alloc (.cells cs t)) lo (Ps ++ [.blk w.heap.size cs t]) :=
  h.add (F := fun k => k = w.heap.size) ((Below.refl _ _).alloc (Nat.le_refl _) _) ⟨Blk.new w cs t, rfl⟩ (fun k hk => by subst hk; simp) hlo
theorem Sep.addRows {lo' hi' : Nat} (h : Sep w lo Ps) (hb : Below w.heap.size w w') (ho : OwnSS w' lo' hi' e A n c xss) (h1 : w.heap.size ≤ lo') (h2 : hi' ≤ w'.heap.size) (hlo : lo ≤ w.heap.size) : ∃ vals, Sep w' lo (Ps ++ [.rows 2 e A n c vals xss]) := by
  obtain ⟨vals, g1, g2, g3, g4, g5⟩ := ho
  refine ⟨vals, h.add (F := fun k => lo' ≤ k ∧ k < hi') hb ⟨own_base g1 (Nat.zero_le _), g2, g3, fun j xs hj => ?_, g5⟩ (fun k hk => by omega) hlo⟩
  obtain ⟨A', c', a1, a2, a3⟩ := g4 j xs hj
  exact ⟨A', c', a1, own_base a2 (Nat.zero_le _), a3⟩
theorem Sep.addNil (h : Sep w lo Ps) (e : TypeId) (hlo : lo ≤ w.heap.size) : Sep w lo (Ps ++ [.own e none 0 0 []]) :=
  h.addOwn (base := w.heap.size) (Below.refl _ _) (World.ownsRow_nil _ _ _ _) (Nat.le_refl _) hlo
theorem Sep.addNilRows (h : Sep w lo Ps) (t e : TypeId) (hlo : lo ≤ w.heap.size) : Sep w lo (Ps ++ [.rows t e none 0 0 [] []]) :=
  h.add (F := fun _ => False) (Below.refl _ _) ⟨World.ownsRow_nil _ _ _ _, fun k hk => by simp [Value.ownBlock] at hk, rfl, fun j xs h => by simp at h, fun i j u v _ h => by simp at h⟩ (fun k hk => hk.elim) hlo
theorem Sep.addMade (h : Sep w lo Ps) (e : TypeId) (hlo : lo ≤ w.heap.size) : Sep (w.alloc (.cells #[] e)) lo (Ps ++ [.own e (some ⟨w.heap.size, 0, none⟩) 0 0 []]) :=
  h.addOwn (base := w.heap.size) ((Below.refl _ _).alloc (Nat.le_refl _) _) (World.ownsRow_made (base := w.heap.size) (e := e) (size := 1) w #[] 0 (Nat.le_refl _) (Nat.zero_le _) (by simp)) (Nat.le_refl _) hlo
theorem Sep.addMadeRows (h : Sep w lo Ps) (t e : TypeId) (hlo : lo ≤ w.heap.size) : Sep (w.alloc (.cells #[] e)) lo (Ps ++ [.rows t e (some ⟨w.heap.size, 0, none⟩) 0 0 [] []]) :=
  h.add (F := fun k => k = w.heap.size) ((Below.refl _ _).alloc (Nat.le_refl _) _) ⟨World.ownsRow_made (base := 0) (e := e) (size := 1) w #[] 0 (Nat.zero_le _) (Nat.zero_le _) (by simp), fun k hk => by simpa [Value.ownBlock] using hk.symm, rfl, fun j xs h => by simp at h, fun i j u v _ h => by simp at h⟩ (fun k hk => by subst hk; simp) hlo
theorem Sep.addMake (h : Sep w lo Ps) (z : Value) (n : Nat) (e : TypeId) (hm : n ≤ maxLen) (hlo : lo ≤ w.heap.size) : Sep (w.alloc (.cells (madeCells #[z] n) e)) lo (Ps ++ [.own e (some ⟨w.heap.size, 0, none⟩) n n (List.replicate n z)]) :=
  h.addOwn (base := w.heap.size) ((Below.refl _ _).alloc (Nat.le_refl _) _) (make_own w z n e hm) (Nat.le_refl _) hlo
/-- A slice of its own turns, and lies where it lay or in a new block. -/
theorem Sep.turn {base n' c' : Nat} {A' : Option Addr} {vs' : List Value} (h : Sep w lo Ps) (hi : Ps[i]? = some (.own e A n c vs)) (hlo : lo ≤ w.heap.size) (hb : Below w.heap.size w wm) (ho : w4.ownsRow base e 1 (.slice A' n' c') n' vs') (gr : wm.grownBy w4 (Value.slice A n c).ownBlock)
    (hat : (Value.slice A' n' c').ownBlock = (Value.slice A n c).ownBlock ∨ ∀ b, (Value.slice A' n' c').ownBlock = some b → w.heap.size ≤ b) : Sep w4 lo (Ps.set i (.own e A' n' c' vs')) := by
  have hs := hb.size
  have hs4 := gr.size
  refine h.step hi (by omega) hlo fun F h1 h2 => ⟨fun k => (Value.slice A' n' c').ownBlock = some k, ⟨own_base ho (Nat.zero_le _), fun k hk => hk⟩, fun k hk => ?_, fun k hk hF => ?_⟩
  · rcases hat with h | h
    · exact .inl (h1.2 k (by rw [← h]; exact hk))
    · exact .inr ⟨h k hk, (ho.lt k hk).2⟩
  · rw [gr.block k (by omega) (fun e => hF (h1.2 k e.symm)), hb.block k hk]
theorem Sep.store (h : Sep w lo Ps) (hi : Ps[i]? = some (.own e (some ⟨g, 0, none⟩) n c vs)) (hlo : lo ≤ w.heap.size) (k : Nat) (u : Value) : Sep (w.setCell ⟨g, k, none⟩ u) lo (Ps.set i (.own e (some ⟨g, 0, none⟩) n c (vs.set k u))) := by
  have hst := (h.own hi).stored k u
  exact h.turn hi hlo (Below.refl _ _) hst.1 hst.2 (.inl rfl)
theorem Sep.blkSet (h : Sep w lo Ps) (hi : Ps[i]? = some (.blk g cs t)) (hlo : lo ≤ w.heap.size) (k : Nat) (u : Value) : Sep (w.setCell ⟨g, k, none⟩ u) lo (Ps.set i (.blk g (cs.setIfInBounds k u) t)) :=
  h.step hi (by simp) hlo fun F h1 h2 => ⟨F, ⟨h1.1.set k u, h1.2⟩, fun k hk => .inl hk, fun a ha hF => by
    have hne : g ≠ a := fun e => hF (e ▸ h1.2)
    simp [World.setCell, Array.getElem?_modify, hne]⟩
theorem own_ne2 {w : World} {b1 b2 e1 e2 n1 n2 : Nat} {v1 v2 : Value} {xs1 xs2 : List Value} (h1 : w.ownsRow b1 e1 1 v1 n1 xs1) (h2 : w.ownsRow b2 e2 1 v2 n2 xs2) (hne : e1 ≠ e2) : v1.ownBlock = none ∨ v1.ownBlock ≠ v2.ownBlock := by
  rcases h1.2 with ⟨rfl, _⟩ | ⟨g, cap, cur, rfl, _, hg, _⟩
  · left; rfl
  · right
    rcases h2.2 with ⟨rfl, _⟩ | ⟨g', cap', cur', rfl, _, hg', _⟩
    · simp [Value.ownBlock]
    · intro he
      have e : g = g' := by simpa [Value.ownBlock] using he
      subst e
      rw [hg] at hg'
      injection hg' with hg'
      injection hg' with _ hx
      exact hne hx
/-- The row k turns (where it lies, or it is laid anew), and its new value is stored at its place. -/
theorem Sep.rowTurn {A1 A4 : Option Addr} {c1 c4 m base : Nat} (h : Sep w lo Ps) (hi : Ps[i]? = some (.rows t e (some ⟨g, 0, none⟩) n c vals xss)) (het : e ≠ t) (hlo : lo ≤ w.heap.size) (hx : xss[k]? = some xs) (hv : vals[k]? = some (.slice A1 xs.length c1))
    (hb : Below w.heap.size w wm) (hm : ys.length = m) (own4 : w4.ownsRow base t 1 (.slice A4 m c4) m (ints ys)) (gr : wm.grownBy w4 (Value.slice A1 xs.length c1).ownBlock)
    (hat : (Value.slice A4 m c4).ownBlock = (Value.slice A1 xs.length c1).ownBlock ∨ ∀ b, (Value.slice A4 m c4).ownBlock = some b → w.heap.size ≤ b) :
    Sep (w4.setCell ⟨g, k, none⟩ (.slice A4 m c4)) lo (Ps.set i (.rows t e (some ⟨g, 0, none⟩) n c (vals.set k (.slice A4 m c4)) (xss.set k ys))) ∧ w4.frozen? ⟨g, k, none⟩ = false ∧ w4.cell? ⟨g, k, none⟩ = some (.slice A1 xs.length c1) := by
  subst hm
  have hs := hb.size
  have hs4 := gr.size
  have keyA : ∀ F, (Pc.rows t e (some ⟨g, 0, none⟩) n c vals xss).holds w F → wm.ownsRow 0 e 1 (.slice (some ⟨g, 0, none⟩) n c) n vals ∧ w4.ownsRow 0 e 1 (.slice (some ⟨g, 0, none⟩) n c) n vals ∧ wm.ownsRow 0 t 1 (.slice A1 xs.length c1) xs.length (ints xs) ∧ (∀ k, (Value.slice A1 xs.length c1).ownBlock = some k → F k) := by
    intro F hF
    obtain ⟨g1, g2, g3, g4, g5⟩ := hF
    obtain ⟨A', c', a1, a2, a3⟩ := g4 k xs hx
    rw [hv] at a1
    simp only [Option.some.injEq, Value.slice.injEq] at a1
    obtain ⟨rfl, _, rfl⟩ := a1
    have q1 := own_below g1 hb (Nat.le_refl _)
    have q2 := own_below a2 hb (Nat.le_refl _)
    exact ⟨q1, q1.kept gr (own_ne2 q1 q2 het), q2, a3⟩
  obtain ⟨F0, hF0, hF1⟩ := h.piece hi
  obtain ⟨_, q4, _, _⟩ := keyA F0 hF0
  have hcell : w4.cell? ⟨g, k, none⟩ = some (.slice A1 xs.length c1) := own_cell q4 hv
  refine ⟨h.step hi (by simpa using Nat.le_trans hs hs4) hlo fun F h1 h2 => ?_, q4.frozenAt k, hcell⟩
  obtain ⟨q1, q4, q2, q3⟩ := keyA F h1
  have hst := q4.stored k (.slice A4 ys.length c4)
  have r4 := own4.kept hst.2 (own_ne2 own4 q4 (fun h => het h.symm))
  obtain ⟨g1, g2, g3, g4, g5⟩ := h1
  refine ⟨fun a => F a ∨ (w.heap.size ≤ a ∧ a < w4.heap.size), ⟨hst.1, fun a ha => .inl (g2 a ha), by rw [List.length_set]; exact g3, fun j zs hj => ?_, ?_⟩, fun a ha => by simpa using ha, fun a ha hF => ?_⟩
  · by_cases ej : j = k
    · subst ej
      rw [List.getElem?_set_self (List.getElem?_eq_some_iff.1 hx).1] at hj
      injection hj with hj
      subst hj
      refine ⟨A4, c4, by rw [List.getElem?_set_self (List.getElem?_eq_some_iff.1 hv).1], own_base r4 (Nat.zero_le _), fun a ha => ?_⟩
      rcases hat with h | h
      · exact .inl (q3 a (by rw [← h]; exact ha))
      · exact .inr ⟨h a ha, (own4.lt a ha).2⟩
    · rw [List.getElem?_set_ne (fun h => ej h.symm)] at hj
      obtain ⟨A2, c2, a1, a2, a3⟩ := g4 j zs hj
      have o3 : w4.ownsRow 0 t 1 (.slice A2 zs.length c2) zs.length (ints zs) := by
        refine (own_below a2 hb (Nat.le_refl _)).kept gr ?_
        cases hbb : (Value.slice A2 zs.length c2).ownBlock with
        | none => exact .inl rfl
        | some g' => exact .inr fun h => g5 j k _ _ ej a1 hv g' hbb h.symm
      exact ⟨A2, c2, by rw [List.getElem?_set_ne (fun h => ej h.symm)]; exact a1, own_base (o3.kept hst.2 (own_ne2 o3 q4 (fun h => het h.symm))) (Nat.zero_le _), fun a ha => .inl (a3 a ha)⟩
  · have hother : ∀ (j : Nat) (v : Value), j ≠ k → vals[j]? = some v → ∀ b, (Value.slice A4 ys.length c4).ownBlock = some b → v.ownBlock ≠ some b := by
      intro j v hj hvj b hbb hvb
      have hjl : j < xss.length := by have := (List.getElem?_eq_some_iff.1 hvj).1; have := g1.1; omega
      obtain ⟨A2, c2, a1, a2, a3⟩ := g4 j _ (List.getElem?_eq_getElem hjl)
      rw [hvj] at a1
      injection a1 with a1
      subst a1
      rcases hat with h | h
      · rw [h] at hbb
        exact g5 k j _ _ (fun e => hj e.symm) hv hvj b hbb hvb
      · have := h b hbb
        have := (h2 b (a3 b hvb)).2
        omega
    intro a b u v hab hu hv' x hux
    by_cases ea : a = k
    · subst ea
      rw [List.getElem?_set_self (List.getElem?_eq_some_iff.1 hv).1] at hu
      injection hu with hu
      subst hu
      rw [List.getElem?_set_ne hab] at hv'
      exact hother b v (fun e => hab e.symm) hv' x hux
    · rw [List.getElem?_set_ne (fun e => ea e.symm)] at hu
      by_cases eb : b = k
      · subst eb
        rw [List.getElem?_set_self (List.getElem?_eq_some_iff.1 hv).1] at hv'
        injection hv' with hv'
        subst hv'
        intro hvb
        exact hother a u hab hu x hvb hux
      · rw [List.getElem?_set_ne (fun e => eb e.symm)] at hv'
        exact g5 a b u v hab hu hv' x hux
  · have hne : g ≠ a := fun e => hF (e ▸ g2 g rfl)
    have e1 : (w4.setCell ⟨g, k, none⟩ (.slice A4 ys.length c4)).heap[a]? = w4.heap[a]? := by simp [World.setCell, Array.getElem?_modify, hne]
    rw [e1, gr.block a (by omega) (fun e => hF (q3 a e.symm)), hb.block a ha]
/-- While the row k turns, the other pieces stay. -/
theorem Sep.rowOther {A1 : Option Addr} {c1 : Nat} {Q : Pc} (h : Sep w lo Ps) (hi : Ps[i]? = some (.rows t e A n c vals xss)) (hx : xss[k]? = some xs) (hv : vals[k]? = some (.slice A1 xs.length c1))
    (hj : Ps[j]? = some Q) (hij : i ≠ j) (hb : Below w.heap.size w wm) (gr : wm.grownBy w4 (Value.slice A1 xs.length c1).ownBlock) : ∃ F, Q.holds w4 F := by
  obtain ⟨Fs, h1, h2, h3⟩ := h
  have hil : i < Ps.length := (List.getElem?_eq_some_iff.1 hi).1
  have hjl : j < Ps.length := (List.getElem?_eq_some_iff.1 hj).1
  obtain ⟨g1, g2, g3, g4, g5⟩ := h1 i _ hi
  obtain ⟨A', c', a1, a2, a3⟩ := g4 k xs hx
  rw [hv] at a1
  simp only [Option.some.injEq, Value.slice.injEq] at a1
  obtain ⟨rfl, _, rfl⟩ := a1
  refine ⟨Fs j, Q.kept (h1 j Q hj) fun a ha => ?_⟩
  have hal := (h2 j a hjl ha).2
  have := hb.size
  rw [gr.block a (by omega) (fun e => h3 i j a hil hjl hij (a3 a e.symm) ha), hb.block a hal]
/-- The row k is written where it lies. -/
theorem Sep.rowWrite {A1 : Option Addr} {c1 base : Nat} (h : Sep w lo Ps) (hi : Ps[i]? = some (.rows t e A n c vals xss)) (het : e ≠ t) (hlo : lo ≤ w.heap.size) (hx : xss[k]? = some xs) (hv : vals[k]? = some (.slice A1 xs.length c1))
    (hb : Below w.heap.size w wm) (hm : ys.length = xs.length) (own4 : w4.ownsRow base t 1 (.slice A1 xs.length c1) xs.length (ints ys)) (gr : wm.grownBy w4 (Value.slice A1 xs.length c1).ownBlock) :
    Sep w4 lo (Ps.set i (.rows t e A n c vals (xss.set k ys))) := by
  have hs := hb.size
  have hs4 := gr.size
  refine h.step hi (by omega) hlo fun F h1 h2 => ?_
  obtain ⟨g1, g2, g3, g4, g5⟩ := h1
  obtain ⟨A', c', a1, a2, a3⟩ := g4 k xs hx
  rw [hv] at a1
  simp only [Option.some.injEq, Value.slice.injEq] at a1
  obtain ⟨rfl, _, rfl⟩ := a1
  have q1 := own_below g1 hb (Nat.le_refl _)
  have q2 := own_below a2 hb (Nat.le_refl _)
  refine ⟨F, ⟨q1.kept gr (own_ne2 q1 q2 het), g2, by rw [List.length_set]; exact g3, fun j zs hj => ?_, g5⟩, fun a ha => .inl ha, fun a ha hF => ?_⟩
  · by_cases ej : j = k
    · subst ej
      rw [List.getElem?_set_self (List.getElem?_eq_some_iff.1 hx).1] at hj
      injection hj with hj
      subst hj
      exact ⟨A1, c1, by rw [hm]; exact hv, by rw [hm]; exact own_base own4 (Nat.zero_le _), by rw [hm]; exact a3⟩
    · rw [List.getElem?_set_ne (fun h => ej h.symm)] at hj
      obtain ⟨A2, c2, b1, b2, b3⟩ := g4 j zs hj
      refine ⟨A2, c2, b1, (own_below b2 hb (Nat.le_refl _)).kept gr ?_, b3⟩
      cases hbb : (Value.slice A2 zs.length c2).ownBlock with
      | none => exact .inl rfl
      | some g' => exact .inr fun h => g5 j k _ _ ej b1 hv g' hbb h.symm
  · rw [gr.block a (by omega) (fun e => hF (a3 a e.symm)), hb.block a ha]
/-- A slice of its own is put behind the rows. -/
theorem Sep.rowPush {A1 A4 : Option Addr} {c1 c4 m : Nat} (h : Sep w lo Ps) (hi : Ps[i]? = some (.rows t e A n c vals xss)) (hj : Ps[j]? = some (.own t A1 m c1 (ints xs))) (hm : xs.length = m) (hij : i ≠ j) (het : e ≠ t) (hlo : lo ≤ w.heap.size)
    (hb : Below w.heap.size w wm) {base : Nat} (own4 : w4.ownsRow base e 1 (.slice A4 (n + 1) c4) (n + 1) (vals ++ [.slice A1 m c1])) (gr : wm.grownBy w4 (Value.slice A n c).ownBlock)
    (hat : (Value.slice A4 (n + 1) c4).ownBlock = (Value.slice A n c).ownBlock ∨ ∀ b, (Value.slice A4 (n + 1) c4).ownBlock = some b → w.heap.size ≤ b) :
    Sep w4 lo ((Ps.set i (.rows t e A4 (n + 1) c4 (vals ++ [.slice A1 m c1]) (xss ++ [xs]))).set j .emp) := by
  subst hm
  have hs := hb.size
  have hs4 := gr.size
  refine h.merge hi hj hij (by omega) hlo fun F G h1 h2 hF hG hd => ?_
  obtain ⟨g1, g2, g3, g4, g5⟩ := h1
  obtain ⟨d1, d2⟩ := h2
  have q1 := own_below g1 hb (Nat.le_refl _)
  have keep : ∀ (A2 : Option Addr) (c2 : Nat) (zs : List Int), w.ownsRow 0 t 1 (.slice A2 zs.length c2) zs.length (ints zs) → w4.ownsRow 0 t 1 (.slice A2 zs.length c2) zs.length (ints zs) := fun A2 c2 zs ho => by
    have := own_below ho hb (Nat.le_refl _)
    exact this.kept gr (own_ne2 this q1 (fun h => het h.symm))
  have hvl : vals.length = n := by have := g1.1; omega
  refine ⟨fun a => F a ∨ G a ∨ (w.heap.size ≤ a ∧ a < w4.heap.size), ⟨own_base own4 (Nat.zero_le _), fun a ha => ?_, by simp [g3], fun k zs hk => ?_, ?_⟩, fun a ha => ha, fun a ha hF' hG' => ?_⟩
  · rcases hat with h | h
    · exact .inl (g2 a (by rw [← h]; exact ha))
    · exact .inr (.inr ⟨h a ha, (own4.lt a ha).2⟩)
  · by_cases ek : k < xss.length
    · rw [List.getElem?_append_left ek] at hk
      obtain ⟨A2, c2, b1, b2, b3⟩ := g4 k zs hk
      exact ⟨A2, c2, by rw [List.getElem?_append_left (by omega)]; exact b1, keep A2 c2 zs b2, fun a ha => .inl (b3 a ha)⟩
    · have hkl : k = xss.length := by have := (List.getElem?_eq_some_iff.1 hk).1; simp at this; omega
      subst hkl
      simp at hk
      subst hk
      exact ⟨A1, c1, by rw [List.getElem?_append_right (by omega), hvl, g3]; simp, keep A1 c1 xs d1, fun a ha => .inr (.inl (d2 a ha))⟩
  · have hold : ∀ (a : Nat) (u : Value), vals[a]? = some u → ∀ x, u.ownBlock = some x → F x := fun a u hu x hx => by
      have hal : a < xss.length := by have := (List.getElem?_eq_some_iff.1 hu).1; omega
      obtain ⟨A2, c2, b1, b2, b3⟩ := g4 a _ (List.getElem?_eq_getElem hal)
      rw [hu] at b1
      injection b1 with b1
      subst b1
      exact b3 x hx
    have hcase : ∀ (a : Nat) (u : Value), (vals ++ [Value.slice A1 xs.length c1])[a]? = some u → vals[a]? = some u ∨ (a = n ∧ u = .slice A1 xs.length c1) := fun a u hu => by
      by_cases ha : a < vals.length
      · rw [List.getElem?_append_left ha] at hu; exact .inl hu
      · have hal : a = vals.length := by have := (List.getElem?_eq_some_iff.1 hu).1; simp at this; omega
        subst hal
        simp at hu
        exact .inr ⟨hvl, hu.symm⟩
    intro a b u v hab hu hv x hx hvx
    rcases hcase a u hu with h1 | ⟨e1, rfl⟩
    · rcases hcase b v hv with h2 | ⟨e2, rfl⟩
      · exact g5 a b u v hab h1 h2 x hx hvx
      · exact hd x (hold a u h1 x hx) (d2 x hvx)
    · rcases hcase b v hv with h2 | ⟨e2, rfl⟩
      · exact hd x (hold b v h2 x hvx) (d2 x hx)
      · exact hab (e1.trans e2.symm)
  · rw [gr.block a (by omega) (fun e => hF' (g2 a e.symm)), hb.block a ha]
/-- A slice of its own is put in the place of the row k. -/
theorem Sep.rowPut {A1 : Option Addr} {c1 m : Nat} (h : Sep w lo Ps) (hi : Ps[i]? = some (.rows t e (some ⟨g, 0, none⟩) n c vals xss)) (hj : Ps[j]? = some (.own t A1 m c1 (ints ys))) (hm : ys.length = m) (hij : i ≠ j) (het : e ≠ t) (hlo : lo ≤ w.heap.size) (hk : k < n) :
    Sep (w.setCell ⟨g, k, none⟩ (.slice A1 m c1)) lo ((Ps.set i (.rows t e (some ⟨g, 0, none⟩) n c (vals.set k (.slice A1 m c1)) (xss.set k ys))).set j .emp) := by
  subst hm
  refine h.merge hi hj hij (by simp) hlo fun F G h1 h2 hF hG hd => ?_
  obtain ⟨g1, g2, g3, g4, g5⟩ := h1
  obtain ⟨d1, d2⟩ := h2
  have hst := g1.stored k (.slice A1 ys.length c1)
  have hvl : vals.length = n := by have := g1.1; omega
  have hold : ∀ (a : Nat) (u : Value), vals[a]? = some u → ∀ x, u.ownBlock = some x → F x := fun a u hu x hx => by
    have hal : a < xss.length := by have := (List.getElem?_eq_some_iff.1 hu).1; omega
    obtain ⟨A2, c2, b1, b2, b3⟩ := g4 a _ (List.getElem?_eq_getElem hal)
    rw [hu] at b1
    injection b1 with b1
    subst b1
    exact b3 x hx
  refine ⟨fun a => F a ∨ G a, ⟨hst.1, fun a ha => .inl (g2 a ha), by rw [List.length_set]; exact g3, fun a zs ha => ?_, ?_⟩, fun a ha => by rcases ha with h | h; exact .inl h; exact .inr (.inl h), fun a ha hF' hG' => ?_⟩
  · by_cases ea : a = k
    · subst ea
      rw [List.getElem?_set_self (by omega)] at ha
      injection ha with ha
      subst ha
      exact ⟨A1, c1, by rw [List.getElem?_set_self (by omega)], d1.kept hst.2 (own_ne2 d1 g1 (fun h => het h.symm)), fun a ha => .inr (d2 a ha)⟩
    · rw [List.getElem?_set_ne (fun h => ea h.symm)] at ha
      obtain ⟨A2, c2, b1, b2, b3⟩ := g4 a zs ha
      exact ⟨A2, c2, by rw [List.getElem?_set_ne (fun h => ea h.symm)]; exact b1, b2.kept hst.2 (own_ne2 b2 g1 (fun h => het h.symm)), fun a ha => .inl (b3 a ha)⟩
  · intro a b u v hab hu hv x hx hvx
    by_cases ea : a = k
    · subst ea
      rw [List.getElem?_set_self (by omega)] at hu
      injection hu with hu
      subst hu
      rw [List.getElem?_set_ne hab] at hv
      exact hd x (hold b v hv x hvx) (d2 x hx)
    · rw [List.getElem?_set_ne (fun e => ea e.symm)] at hu
      by_cases eb : b = k
      · subst eb
        rw [List.getElem?_set_self (by omega)] at hv
        injection hv with hv
        subst hv
        exact hd x (hold a u hu x hx) (d2 x hvx)
      · rw [List.getElem?_set_ne (fun e => eb e.symm)] at hv
        exact g5 a b u v hab hu hv x hx hvx
  · have hne : g ≠ a := fun e => hF' (e ▸ g2 g rfl)
    simp [World.setCell, Array.getElem?_modify, hne]
end

/-- What a call has made so far, piece by piece; below it all is as it was. -/
structure St (w0 w : World) (Ps : List Pc) : Prop where
  sep : Sep w w0.heap.size Ps
  below : Below w0.heap.size w0 w
section
variable {w0 w wm w4 w' : World} {i j : Nat} {Ps Qs : List Pc} {t e n c g k m base : Nat} {A A1 A4 : Option Addr} {c1 c4 : Nat} {vs vs' vals : List Value} {xss : List (List Int)} {xs ys : List Int} {cs : Array Value} {u : Value} {o : Obj}
theorem St.lo (h : St w0 w Ps) : w0.heap.size ≤ w.heap.size := h.below.size
theorem St.start (w : World) : St w w [] := ⟨Sep.nil _ _, Below.refl _ _⟩
theorem St.go (h : St w0 w Ps) (hb : Below w.heap.size w w') : St w0 w' Ps := ⟨h.sep.go hb, h.below.trans (hb.mono h.lo)⟩
theorem St.al (h : St w0 w Ps) (o : Obj) : St w0 (w.alloc o) Ps := h.go ((Below.refl _ _).alloc (Nat.le_refl _) o)
theorem St.take (h : St w0 w Ps) (n : Nat) : St w0 w (Ps.take n) := ⟨h.sep.take n, h.below⟩
theorem St.pick (h : St w0 w Ps) (f : Nat → Nat) (hf : ∀ i, i < Qs.length → f i < Ps.length) (hg : ∀ i, i < Qs.length → Qs[i]? = Ps[f i]?) (hinj : ∀ i j, i < Qs.length → j < Qs.length → i ≠ j → f i ≠ f j) : St w0 w Qs := ⟨h.sep.pick f hf hg hinj, h.below⟩
theorem St.own (h : St w0 w Ps) (hi : Ps[i]? = some (.own e A n c vs)) : w.ownsRow w0.heap.size e 1 (.slice A n c) n vs := h.sep.own hi
theorem St.blk (h : St w0 w Ps) (hi : Ps[i]? = some (.blk g cs t)) : Blk w g cs t := (h.sep.blk hi).1
theorem St.rows (h : St w0 w Ps) (hi : Ps[i]? = some (.rows t e A n c vals xss)) : w.ownsRow w0.heap.size e 1 (.slice A n c) n vals := h.sep.rows hi
theorem St.rowAt (h : St w0 w Ps) (hi : Ps[i]? = some (.rows t e A n c vals xss)) (hk : xss[k]? = some xs) :
    ∃ (A' : Option Addr) (c' : Nat), vals[k]? = some (Value.slice A' xs.length c') ∧ w.ownsRow w0.heap.size t 1 (.slice A' xs.length c') xs.length (ints xs) := h.sep.rowAt hi hk
theorem St.addOwn (h : St w0 w Ps) (hb : Below w.heap.size w w') (ho : w'.ownsRow base e 1 (.slice A n c) n vs) (hbase : w.heap.size ≤ base) : St w0 w' (Ps ++ [.own e A n c vs]) := ⟨h.sep.addOwn hb ho hbase h.lo, h.below.trans (hb.mono h.lo)⟩
theorem St.addBlk (h : St w0 w Ps) (cs : Array Value) (t : TypeId) : St w0 (w.alloc (.cells cs t)) (Ps ++ [.blk w.heap.size cs t]) := ⟨h.sep.addBlk cs t h.lo, (h.al _).below⟩
theorem St.addMade (h : St w0 w Ps) (e : TypeId) : St w0 (w.alloc (.cells #[] e)) (Ps ++ [.own e (some ⟨w.heap.size, 0, none⟩) 0 0 []]) := ⟨h.sep.addMade e h.lo, (h.al _).below⟩
theorem St.addMadeRows (h : St w0 w Ps) (t e : TypeId) : St w0 (w.alloc (.cells #[] e)) (Ps ++ [.rows t e (some ⟨w.heap.size, 0, none⟩) 0 0 [] []]) := ⟨h.sep.addMadeRows t e h.lo, (h.al _).below⟩
theorem St.addMake (h : St w0 w Ps) (z : Value) (n : Nat) (e : TypeId) (hm : n ≤ maxLen) : St w0 (w.alloc (.cells (madeCells #[z] n) e)) (Ps ++ [.own e (some ⟨w.heap.size, 0, none⟩) n n (List.replicate n z)]) := ⟨h.sep.addMake z n e hm h.lo, (h.al _).below⟩
theorem St.addNil (h : St w0 w Ps) (e : TypeId) : St w0 w (Ps ++ [.own e none 0 0 []]) := ⟨h.sep.addNil e h.lo, h.below⟩
theorem St.addNilRows (h : St w0 w Ps) (t e : TypeId) : St w0 w (Ps ++ [.rows t e none 0 0 [] []]) := ⟨h.sep.addNilRows t e h.lo, h.below⟩
theorem St.addRows {lo' hi' : Nat} (h : St w0 w Ps) (hb : Below w.heap.size w w') (ho : OwnSS w' lo' hi' e A n c xss) (h1 : w.heap.size ≤ lo') (h2 : hi' ≤ w'.heap.size) : ∃ vals, St w0 w' (Ps ++ [.rows 2 e A n c vals xss]) := by
  obtain ⟨vals, hs⟩ := h.sep.addRows hb ho h1 h2 h.lo
  exact ⟨vals, hs, h.below.trans (hb.mono h.lo)⟩
theorem St.turn {n' c' : Nat} {A' : Option Addr} (h : St w0 w Ps) (hi : Ps[i]? = some (.own e A n c vs)) (hb : Below w.heap.size w wm) (ho : w4.ownsRow base e 1 (.slice A' n' c') n' vs') (gr : wm.grownBy w4 (Value.slice A n c).ownBlock)
    (hat : (Value.slice A' n' c').ownBlock = (Value.slice A n c).ownBlock ∨ ∀ b, (Value.slice A' n' c').ownBlock = some b → w.heap.size ≤ b) : St w0 w4 (Ps.set i (.own e A' n' c' vs')) :=
  ⟨h.sep.turn hi h.lo hb ho gr hat, (h.go hb).below.grown gr (h.go hb).lo fun k hk => ((h.own hi).lt k hk).1⟩
theorem hat_of {x y : Option Nat} {s : Nat} (h : x = y ∨ x = some (s + 1)) : x = y ∨ ∀ b, x = some b → s ≤ b := h.imp id fun h b hb => by rw [h] at hb; injection hb; omega
theorem hat_of0 {x y : Option Nat} {s : Nat} (h : x = y ∨ x = some s) : x = y ∨ ∀ b, x = some b → s ≤ b := h.imp id fun h b hb => by rw [h] at hb; injection hb; omega
theorem St.push {c' : Nat} {A' : Option Addr} (h : St w0 w Ps) (hi : Ps[i]? = some (.own e A n c vs)) (ho : w4.ownsRow base e 1 (.slice A' (n + 1) c') (n + 1) vs') (gr : (w.alloc o).grownBy w4 (Value.slice A n c).ownBlock)
    (hat : (Value.slice A' (n + 1) c').ownBlock = (Value.slice A n c).ownBlock ∨ (Value.slice A' (n + 1) c').ownBlock = some (w.heap.size + 1)) : St w0 w4 (Ps.set i (.own e A' (n + 1) c' vs')) :=
  h.turn hi ((Below.refl _ _).alloc (Nat.le_refl _) o) ho gr (hat_of hat)
theorem St.store (h : St w0 w Ps) (hi : Ps[i]? = some (.own e (some ⟨g, 0, none⟩) n c vs)) (k : Nat) (u : Value) : St w0 (w.setCell ⟨g, k, none⟩ u) (Ps.set i (.own e (some ⟨g, 0, none⟩) n c (vs.set k u))) :=
  ⟨h.sep.store hi h.lo k u, h.below.setCell (p := ⟨g, k, none⟩) ((h.own hi).lt g rfl).1 u⟩
theorem St.blkSet (h : St w0 w Ps) (hi : Ps[i]? = some (.blk g cs t)) (k : Nat) (u : Value) : St w0 (w.setCell ⟨g, k, none⟩ u) (Ps.set i (.blk g (cs.setIfInBounds k u) t)) :=
  ⟨h.sep.blkSet hi h.lo k u, h.below.setCell (p := ⟨g, k, none⟩) (h.sep.blk hi).2 u⟩
theorem St.rowTurn (h : St w0 w Ps) (hi : Ps[i]? = some (.rows t e (some ⟨g, 0, none⟩) n c vals xss)) (het : e ≠ t) (hx : xss[k]? = some xs) (hv : vals[k]? = some (.slice A1 xs.length c1))
    (hb : Below w.heap.size w wm) (hm : ys.length = m) (own4 : w4.ownsRow base t 1 (.slice A4 m c4) m (ints ys)) (gr : wm.grownBy w4 (Value.slice A1 xs.length c1).ownBlock)
    (hat : (Value.slice A4 m c4).ownBlock = (Value.slice A1 xs.length c1).ownBlock ∨ ∀ b, (Value.slice A4 m c4).ownBlock = some b → w.heap.size ≤ b) :
    St w0 (w4.setCell ⟨g, k, none⟩ (.slice A4 m c4)) (Ps.set i (.rows t e (some ⟨g, 0, none⟩) n c (vals.set k (.slice A4 m c4)) (xss.set k ys))) ∧ w4.frozen? ⟨g, k, none⟩ = false ∧ w4.cell? ⟨g, k, none⟩ = some (.slice A1 xs.length c1) := by
  obtain ⟨h1, h2, h3⟩ := h.sep.rowTurn hi het h.lo hx hv hb hm own4 gr hat
  obtain ⟨A', c', a1, a2⟩ := h.rowAt hi hx
  rw [hv] at a1
  simp only [Option.some.injEq, Value.slice.injEq] at a1
  obtain ⟨rfl, _, rfl⟩ := a1
  exact ⟨⟨h1, ((h.go hb).below.grown gr (h.go hb).lo fun k hk => (a2.lt k hk).1).setCell (p := ⟨g, k, none⟩) ((h.rows hi).lt g rfl).1 _⟩, h2, h3⟩
theorem St.rowBlk {g2 : Nat} {t2 : TypeId} (h : St w0 w Ps) (hi : Ps[i]? = some (.rows t e A n c vals xss)) (hx : xss[k]? = some xs) (hv : vals[k]? = some (.slice A1 xs.length c1))
    (hj : Ps[j]? = some (.blk g2 cs t2)) (hij : i ≠ j) (hb : Below w.heap.size w wm) (gr : wm.grownBy w4 (Value.slice A1 xs.length c1).ownBlock) : Blk w4 g2 cs t2 := by
  obtain ⟨F, h1⟩ := h.sep.rowOther hi hx hv hj hij hb gr
  exact h1.1
theorem St.rowWrite (h : St w0 w Ps) (hi : Ps[i]? = some (.rows t e A n c vals xss)) (het : e ≠ t) (hx : xss[k]? = some xs) (hv : vals[k]? = some (.slice A1 xs.length c1))
    (hb : Below w.heap.size w wm) (hm : ys.length = xs.length) (own4 : w4.ownsRow base t 1 (.slice A1 xs.length c1) xs.length (ints ys)) (gr : wm.grownBy w4 (Value.slice A1 xs.length c1).ownBlock) :
    St w0 w4 (Ps.set i (.rows t e A n c vals (xss.set k ys))) := by
  obtain ⟨A', c', a1, a2⟩ := h.rowAt hi hx
  rw [hv] at a1
  simp only [Option.some.injEq, Value.slice.injEq] at a1
  obtain ⟨rfl, _, rfl⟩ := a1
  exact ⟨h.sep.rowWrite hi het h.lo hx hv hb hm own4 gr, (h.go hb).below.grown gr (h.go hb).lo fun k hk => (a2.lt k hk).1⟩
theorem St.rowPush (h : St w0 w Ps) (hi : Ps[i]? = some (.rows t e A n c vals xss)) (hj : Ps[j]? = some (.own t A1 m c1 (ints xs))) (hm : xs.length = m) (hij : i ≠ j) (het : e ≠ t)
    (own4 : w4.ownsRow base e 1 (.slice A4 (n + 1) c4) (n + 1) (vals ++ [.slice A1 m c1])) (gr : (w.alloc o).grownBy w4 (Value.slice A n c).ownBlock)
    (hat : (Value.slice A4 (n + 1) c4).ownBlock = (Value.slice A n c).ownBlock ∨ (Value.slice A4 (n + 1) c4).ownBlock = some (w.heap.size + 1)) :
    St w0 w4 ((Ps.set i (.rows t e A4 (n + 1) c4 (vals ++ [.slice A1 m c1]) (xss ++ [xs]))).set j .emp) :=
  ⟨h.sep.rowPush hi hj hm hij het h.lo ((Below.refl _ _).alloc (Nat.le_refl _) o) own4 gr (hat_of hat), (h.al o).below.grown gr (h.al o).lo fun k hk => ((h.rows hi).lt k hk).1⟩
theorem St.rowPut (h : St w0 w Ps) (hi : Ps[i]? = some (.rows t e (some ⟨g, 0, none⟩) n c vals xss)) (hj : Ps[j]? = some (.own t A1 m c1 (ints ys))) (hm : ys.length = m) (hij : i ≠ j) (het : e ≠ t) (hk : k < n) :
    St w0 (w.setCell ⟨g, k, none⟩ (.slice A1 m c1)) ((Ps.set i (.rows t e (some ⟨g, 0, none⟩) n c (vals.set k (.slice A1 m c1)) (xss.set k ys))).set j .emp) :=
  ⟨h.sep.rowPut hi hj hm hij het h.lo hk, h.below.setCell (p := ⟨g, k, none⟩) ((h.rows hi).lt g rfl).1 _⟩
end
/-- What a call has made is put beside what was made before it. -/
theorem St.join {w0 w1 w2 : World} {Ps Qs : List Pc} (h : St w0 w1 Ps) (g : St w1 w2 Qs) : St w0 w2 (Ps ++ Qs) := by
  refine ⟨?_, (h.go g.below).below⟩
  obtain ⟨Fs, h1, h2, h3⟩ := h.sep
  obtain ⟨Gs, g1, g2, g3⟩ := g.sep
  have hlo := h.lo
  have hs := g.lo
  refine ⟨fun i k => if i < Ps.length then Fs i k else Gs (i - Ps.length) k, fun i P hi => ?_, fun i k hi hk => ?_, fun a b k ha hb hab hk hkb => ?_⟩
  · by_cases hil : i < Ps.length
    · rw [List.getElem?_append_left hil] at hi
      simp only [if_pos hil]
      exact P.kept (h1 i P hi) fun k hk => g.below.block k (h2 i k hil hk).2
    · rw [List.getElem?_append_right (by omega)] at hi
      simp only [if_neg hil]
      exact g1 _ P hi
  · rw [List.length_append] at hi
    by_cases hil : i < Ps.length
    · simp only [if_pos hil] at hk
      have := h2 i k hil hk
      omega
    · simp only [if_neg hil] at hk
      have := g2 _ k (by omega) hk
      omega
  · rw [List.length_append] at ha hb
    by_cases hal : a < Ps.length
    · simp only [if_pos hal] at hk
      have h4 := h2 a k hal hk
      by_cases hbl : b < Ps.length
      · simp only [if_pos hbl] at hkb
        exact h3 a b k hal hbl hab hk hkb
      · simp only [if_neg hbl] at hkb
        have := g2 _ k (by omega) hkb
        omega
    · simp only [if_neg hal] at hk
      have h4 := g2 _ k (by omega) hk
      by_cases hbl : b < Ps.length
      · simp only [if_pos hbl] at hkb
        have := h2 b k hbl hkb
        omega
      · simp only [if_neg hbl] at hkb
        exact g3 _ _ k (by omega) (by omega) (by omega) hk hkb
end Go.Proofs.Ytmgoaabeopnopaa
/- What the laws write into memory, piece by piece. -/
namespace Go.Proofs.Ytmgoaabeopnopaa
open Go.RowKit

section
variable {w0 w w4 : World} {Ps Qs : List Pc} {P : Pc} {i j : Nat}
theorem St.init (h : St w0 w (Qs ++ [P])) : St w0 w Qs :=
  h.pick id (fun i hi => by simp; omega) (fun i hi => by rw [id, List.getElem?_append_left hi]) (fun i j _ _ h => h)
theorem St.drop (h : St w0 w Ps) (i : Nat) : St w0 w (Ps.eraseIdx i) := by
  refine h.pick (fun j => if j < i then j else j + 1) (fun j hj => ?_) (fun j hj => ?_) (fun a b _ _ h => ?_)
  · show (if j < i then j else j + 1) < Ps.length
    rw [List.length_eraseIdx] at hj
    split at hj <;> split <;> omega
  · show (Ps.eraseIdx i)[j]? = Ps[if j < i then j else j + 1]?
    rw [List.getElem?_eraseIdx]
    split <;> rfl
  · show (if a < i then a else a + 1) ≠ (if b < i then b else b + 1)
    split <;> split <;> omega
end
/-- A slice literal with one element. -/
theorem St.addLit1 {w0 w : World} {Ps : List Pc} (h : St w0 w Ps) (u : Value) (e : TypeId) : St w0 (w.alloc (.cells #[u] e)) (Ps ++ [.own e (some ⟨w.heap.size, 0, none⟩) 1 1 [u]]) :=
  h.addOwn (base := w.heap.size) ((Below.refl _ _).alloc (Nat.le_refl _) _) (by simpa using World.ownsRow_lit (base := w.heap.size) (e := e) (size := 1) w #[u] 1 (Nat.le_refl _) (by decide) (by simp)) (Nat.le_refl _)
theorem St.addLit2 {w0 w : World} {Ps : List Pc} (h : St w0 w Ps) (u v : Value) (e : TypeId) : St w0 (w.alloc (.cells #[u, v] e)) (Ps ++ [.own e (some ⟨w.heap.size, 0, none⟩) 2 2 [u, v]]) :=
  h.addOwn (base := w.heap.size) ((Below.refl _ _).alloc (Nat.le_refl _) _) (by simpa using World.ownsRow_lit (base := w.heap.size) (e := e) (size := 1) w #[u, v] 2 (Nat.le_refl _) (by decide) (by simp)) (Nat.le_refl _)
theorem set_self {Ps : List Pc} {P : Pc} {i : Nat} (h : Ps[i]? = some P) : Ps.set i P = Ps := by
  apply List.ext_getElem?
  intro k
  by_cases hk : i = k
  · subst hk
    rw [List.getElem?_set_self (List.getElem?_eq_some_iff.1 h).1, h]
  · rw [List.getElem?_set_ne hk]
theorem last_at (Ps : List Pc) (P : Pc) : (Ps ++ [P])[Ps.length]? = some P := by simp
theorem last_at2 {Ps : List Pc} (P Q : Pc) (i : Nat) : (Ps.set i Q ++ [P])[Ps.length]? = some P := by
  have := last_at (Ps.set i Q) P
  rwa [List.length_set] at this
section
variable {w0 : World} {Ps : List Pc} {i j e n c : Nat} {A : Option Addr} {vals : List Value} {xs : List Int} {xss : List (List Int)}
theorem mark_st (k0 : Int) (w : World) (st : St w0 w Ps) (hi : Ps[i]? = some (.own 2 A n c (ints xs))) (hn : n ≤ 1048576) (h0 : 0 ≤ k0) (h1 : k0 ≤ 1000000000000000000) :
    Calls Try.prog 30 #[.slice A n c, .int .i64 k0] w fun e' w' => e' = .returned (.int .i64 (k0 + n)) ∧ St w0 w' (Ps.set i (.own 2 A n c (ints (marks k0 n)))) := by
  refine (mark_any k0 w (st.own hi) hn h0 h1).mono ?_
  rintro e' w' ⟨rfl, own, gr⟩
  exact ⟨rfl, st.turn hi (Below.refl _ _) own gr (.inl rfl)⟩

set_option maxHeartbeats 800000 in
theorem markSS_st (k0 : Int) (w : World) (st : St w0 w Ps) (hi : Ps[i]? = some (.rows 2 e A n c vals xss)) (he : e ≠ 2) (hn : n ≤ 1048576) (hr : ∀ xs ∈ xss, (xs.length : Int) ≤ 1048576) (h0 : 0 ≤ k0) (h1 : k0 ≤ 100000000000000000) :
    Calls Try.prog 25 #[.slice A n c, .int .i64 k0] w fun e' w' => e' = .returned (.int .i64 (k0 + totalL xss)) ∧ St w0 w' (Ps.set i (.rows 2 e A n c vals (marksSS k0 xss))) := by
  have hx : xss.length = n := st.sep.rows_len hi
  have hil : i < Ps.length := (List.getElem?_eq_some_iff.1 hi).1
  have HX := Lib.hid hx
  have HS := Lib.hid st
  have HI := Lib.hid hi
  have HR := Lib.hid hr
  have HE := Lib.hid he
  have HL := Lib.hid (fun (P : Pc) => List.getElem?_set_self (a := P) hil)
  clear hx st hi hr he
  go_enter Try.func25, Try.ntmps25
  go_wp2
  go_loopw [1, 5] (fun q i' wr => ∃ k t : Nat, k ≤ n ∧ i' = .int .i64 k ∧ q = .int .i64 (k0 + t) ∧ t = totalL (xss.take k) ∧ St w0 wr (Ps.set i (.rows 2 e A n c vals (markTo k0 xss k)))) (fun _ i _ => n - (intOf i).toNat)
  case atStart => exact ⟨0, 0, Nat.zero_le _, rfl, by simp, by simp [totalL], by
    have h : markTo k0 xss 0 = xss := by simp [markTo]
    rw [h, set_self HI.out]
    exact HS.out⟩
  case round =>
    obtain ⟨k, t, hk, rfl, rfl, ht, st⟩ := hrel
    have hb := totalL_le HR.out k
    have htb : t ≤ k * 1048576 := by omega
    have ST := Lib.hid st
    have HT := Lib.hid ht
    clear st ht hb HS
    by_cases hlt : k < n
    · obtain ⟨xs, hxs⟩ := get_some (xss := xss) (k := k) (by rw [HX.out]; exact hlt)
      have hlen := HR.out xs (List.mem_of_getElem? hxs)
      obtain ⟨A', c', e1, o1⟩ := ST.out.rowAt (HL.out _) (markTo_at hxs)
      obtain ⟨g, rfl⟩ := own_shape (ST.out.rows (HL.out _)) (by omega)
      have hcell := own_cell (ST.out.rows (HL.out _)) e1
      have O1 := Lib.hid o1
      have E1 := Lib.hid e1
      have HXS := Lib.hid hxs
      clear e1 o1 hxs
      go_wp2_with fail
      refine (mark_any (k0 + t) wr O1.out (by omega) (by omega) (by omega)).mono ?_
      rintro e' w1 ⟨rfl, own1, gr⟩
      have hnew := ST.out.rowWrite (HL.out _) HE.out (markTo_at HXS.out) E1.out (Below.refl _ _) (marks_length _ _) own1 gr
      rw [HT.out, markTo_set HXS.out, List.set_set] at hnew
      have NEW := Lib.hid hnew
      clear hnew own1 gr
      go_wp2
      go_roundw
      case rel => exact ⟨k + 1, t + xs.length, by omega, by go_num, by go_num, by rw [totalL_succ HXS.out, HT.out], NEW.out⟩
      case measure => simp [intOf]; omega
    · go_wp2
      go_ret
      obtain rfl : k = n := by omega
      have e2 : xss.take k = xss := List.take_of_length_le (by rw [HX.out]; exact Nat.le_refl _)
      refine ⟨ret_i64 (by rw [HT.out, e2]), ?_⟩
      have h := ST.out
      unfold markTo at h
      rwa [List.take_of_length_le (by rw [marksSS_length, HX.out]; exact Nat.le_refl _), List.drop_of_length_le (by rw [HX.out]; exact Nat.le_refl _), List.append_nil] at h

theorem markM_st (k0 : Int) (w : World) (st : St w0 w Ps) (hi : Ps[i]? = some (.rows 2 e A n c vals xss)) (he : e ≠ 2) (hn : n ≤ 1048576) (hr : ∀ xs ∈ xss, (xs.length : Int) ≤ 1048576) (h0 : 0 ≤ k0) (h1 : k0 ≤ 100000000000000000) :
    Calls Try.prog 24 #[.agg #[.slice A n c], .int .i64 k0] w fun e' w' => e' = .returned (.int .i64 (k0 + totalL xss)) ∧ St w0 w' (Ps.set i (.rows 2 e A n c vals (marksSS k0 xss))) := by
  have ST := Lib.hid (st.al (.cells #[.slice A n c] 27))
  have HI := Lib.hid hi
  have HR := Lib.hid hr
  clear st hr hi
  go_enter Try.func24, Try.ntmps24
  go_wp2_with fail
  refine (markSS_st k0 _ ST.out HI.out he hn HR.out h0 h1).mono ?_
  rintro e' w' ⟨rfl, st⟩
  have ST2 := Lib.hid st
  clear st
  go_wp2
  go_ret
  exact ⟨rfl, ST2.out⟩

end
end Go.Proofs.Ytmgoaabeopnopaa
/- 'append' as a step of a region that draws. -/
namespace Go.Proofs.Ytmgoaabeopnopaa
open Go.RowKit

/-- 'append' of a slice (it may be empty) onto a slice that the call owns, as a step of a region that draws. -/
theorem step_cat_at {P : Program} {ops : Array Oper} {o : Oper} {a : Act} {w : World} {K : Act → World → Prop} {Q : Exit → Act → World → Prop} {E : Prop} (hgd : o.guard = none) (s x : Operand) (t e : TypeId)
    (ho : o.op = Op.call { callee := Callee.builtin Builtin.append, args := #[s, x], argTypes := #[t, t] }) (ht : P.underlying t = some (.slice e))
    (z : Value) (bytes : Nat) (hinfo : (P.info? e).map (fun i => (i.zero, i.size, i.bytes)) = some (some z, 1, bytes)) (hz : z.cells.size = 1)
    (base : Nat) (v : Value) (n : Nat) (vs : List Value) (hs : a.eval s = v) (hown : w.ownsRow base e 1 v n vs) (ad : Addr) (m c : Nat) (us : List Value)
    (hx : a.eval x = .slice (some ad) m c) (hl : us.length = m) (hus : ∀ j u, us[j]? = some u → w.cell? (ad.add j) = some u) (h1 : ∀ u ∈ us, u.oneCell' = true) (hn : (n + m) * bytes ≤ 140737488355328) (hm : n + m ≤ 9223372036854775807) (hb : base ≤ w.heap.size)
    (h : ∀ A' c' w', w'.ownsRow base e 1 (.slice A' (n + m) c') (n + m) (vs ++ us) → w.grownBy w' v.ownBlock → ((Value.slice A' (n + m) c').ownBlock = v.ownBlock ∨ (Value.slice A' (n + m) c').ownBlock = some w.heap.size) → K (a.put o.dst (.slice A' (n + m) c')) w') :
    if Region.wanted o (yielded ops a.tmps) = true then Oper.wp P o a w K Q else E := by
  have hw : Region.wanted o (yielded ops a.tmps) = true := by simp [Region.wanted, hgd]
  rw [if_pos hw]
  obtain ⟨i, hi, hzz⟩ := Option.map_eq_some_iff.1 hinfo
  simp only [Prod.mk.injEq] at hzz
  obtain ⟨e1, e2, e3⟩ := hzz
  obtain ⟨v', w', hr, hown', hg, _, hat⟩ := run_append_own_at (P := P) w base t o.type e i z 1 bytes ht hi e1 e2 e3 hz (by decide) v n vs hown ad m c us (by omega) hus h1 (by unfold maxLen; omega) hn hb
  have key : K (a.put o.dst v') w' := by
    have hown2 := hown'
    rcases hown'.2 with ⟨rfl, h0⟩ | ⟨g, cap, cur, rfl, rest⟩
    · have hn0 : n = 0 := by omega
      have hm0 : m = 0 := by omega
      subst hn0
      subst hm0
      exact h none 0 _ hown2 hg hat
    · exact h _ _ _ hown2 hg hat
  unfold Oper.wp
  simp [execOp, ho, resolve, invoke, builtin, hs, hx, hr, Result.andThen]
  exact key

/-- 'append' of one element as a step of a region that draws; the new cell's block is a letter. -/
theorem step_push_h {P : Program} {ops : Array Oper} {o : Oper} {a : Act} {w : World} {K : Act → World → Prop} {Q : Exit → Act → World → Prop} {E : Prop} (hgd : o.guard = none) (s x : Operand) (t e : TypeId)
    (ho : o.op = Op.call { callee := Callee.builtin Builtin.append, args := #[s, x], argTypes := #[t, t] }) (ht : P.underlying t = some (.slice e))
    (z : Value) (bytes : Nat) (hinfo : (P.info? e).map (fun i => (i.zero, i.size, i.bytes)) = some (some z, 1, bytes)) (hz : z.cells.size = 1) (H : Nat) (hH : w.heap.size = H)
    (base : Nat) (v : Value) (n : Nat) (vs : List Value) (hs : a.eval s = v) (hown : w.ownsRow base e 1 v n vs) (u : Value) (hu : u.oneCell' = true)
    (hx : a.eval x = .slice (some ⟨H, 0, none⟩) 1 1) (hn : (n + 1) * bytes ≤ 140737488355328) (hm : n + 1 ≤ 9223372036854775807) (hb : base ≤ H)
    (h : ∀ A' c' w', w'.ownsRow base e 1 (.slice A' (n + 1) c') (n + 1) (vs ++ [u]) → (w.alloc (.cells #[u] e)).grownBy w' v.ownBlock → ((Value.slice A' (n + 1) c').ownBlock = v.ownBlock ∨ (Value.slice A' (n + 1) c').ownBlock = some (w.heap.size + 1)) → K (a.put o.dst (.slice A' (n + 1) c')) w') :
    if Region.wanted o (yielded ops a.tmps) = true then Oper.wp P o a (w.alloc (.cells #[u] e)) K Q else E := by
  subst hH
  refine step_cat_at hgd s x t e ho ht z bytes hinfo hz base v n vs hs (hown.alloc _) ⟨w.heap.size, 0, none⟩ 1 1 [u] hx rfl (cell_one_new w u e) (fun y hy => by simp at hy; subst hy; exact hu) hn hm (by simp; omega) ?_
  intro A' c' w' h1 h2 h3
  exact h A' c' w' h1 h2 (by simpa using h3)
/-- 'append' of one element, the new cell's block as a letter. -/
theorem wpList_push_h {P : Program} (w : World) {ops : Array Oper} {rest : List Oper} {o : Oper} {a : Act} {Q : Exit → Act → World → Prop} (hgd : o.guard = none) (s x : Operand) (t e : TypeId)
    (ho : o.op = .call { callee := .builtin .append, args := #[s, x], argTypes := #[t, t] }) (ht : P.underlying t = some (.slice e))
    (z : Value) (bytes : Nat) (hinfo : (P.info? e).map (fun i => (i.zero, i.size, i.bytes)) = some (some z, 1, bytes)) (hz : z.cells.size = 1) (H : Nat) (hH : w.heap.size = H)
    (base : Nat) (v : Value) (n : Nat) (vs : List Value) (hs : a.eval s = v) (hown : w.ownsRow base e 1 v n vs) (u : Value) (hu : u.oneCell' = true)
    (hx : a.eval x = .slice (some ⟨H, 0, none⟩) 1 1) (hn : (n + 1) * bytes ≤ 140737488355328) (hm : n + 1 ≤ 9223372036854775807) (hb : base ≤ H)
    (h : ∀ A' c' w', w'.ownsRow base e 1 (.slice A' (n + 1) c') (n + 1) (vs ++ [u]) → (w.alloc (.cells #[u] e)).grownBy w' v.ownBlock → ((Value.slice A' (n + 1) c').ownBlock = v.ownBlock ∨ (Value.slice A' (n + 1) c').ownBlock = some (w.heap.size + 1)) → wpList P ops Q rest (a.put o.dst (.slice A' (n + 1) c')) w') :
    wpList P ops Q (o :: rest) a (w.alloc (.cells #[u] e)) := by
  subst hH
  exact wpList_push_at w hgd s x t e ho ht z bytes hinfo hz base v n vs hs hown u hu hx hn hm hb h

/-- 'append' of all elements of a slice onto a slice that the call owns, with the place where the new slice lies. -/
theorem wpList_cat_at {P : Program} (w : World) {ops : Array Oper} {rest : List Oper} {o : Oper} {a : Act} {Q : Exit → Act → World → Prop} (hgd : o.guard = none) (s x : Operand) (t e : TypeId)
    (ho : o.op = .call { callee := .builtin .append, args := #[s, x], argTypes := #[t, t] }) (ht : P.underlying t = some (.slice e))
    (z : Value) (bytes : Nat) (hinfo : (P.info? e).map (fun i => (i.zero, i.size, i.bytes)) = some (some z, 1, bytes)) (hz : z.cells.size = 1)
    (base : Nat) (v : Value) (n : Nat) (vs : List Value) (hs : a.eval s = v) (hown : w.ownsRow base e 1 v n vs) (ad : Addr) (m c : Nat) (us : List Value)
    (hx : a.eval x = .slice (some ad) m c) (hl : us.length = m) (hus : ∀ j u, us[j]? = some u → w.cell? (ad.add j) = some u) (h1 : ∀ u ∈ us, u.oneCell' = true) (hn : (n + m) * bytes ≤ 140737488355328) (hm : n + m ≤ 9223372036854775807) (hb : base ≤ w.heap.size)
    (h : ∀ A' c' w', w'.ownsRow base e 1 (.slice A' (n + m) c') (n + m) (vs ++ us) → w.grownBy w' v.ownBlock → ((Value.slice A' (n + m) c').ownBlock = v.ownBlock ∨ (Value.slice A' (n + m) c').ownBlock = some w.heap.size) → wpList P ops Q rest (a.put o.dst (.slice A' (n + m) c')) w') :
    wpList P ops Q (o :: rest) a w := by
  obtain ⟨i, hi, hzz⟩ := Option.map_eq_some_iff.1 hinfo
  simp only [Prod.mk.injEq] at hzz
  obtain ⟨e1, e2, e3⟩ := hzz
  refine wpList_append_own_at _ hgd s x t ho base e i z 1 bytes ht hi e1 e2 e3 hz (by decide) v n vs hs hown ad m c us hx (by omega) hus h1 (by unfold maxLen; omega) hn hb ?_
  intro v' w' hown' hg _ hat
  have hown2 := hown'
  rcases hown'.2 with ⟨rfl, h0⟩ | ⟨g, cap, cur, rfl, rest⟩
  · have hn0 : n = 0 := by omega
    have hm0 : m = 0 := by omega
    subst hn0
    subst hm0
    exact h none 0 _ hown2 hg hat
  · exact h _ _ _ hown2 hg hat

end Go.Proofs.Ytmgoaabeopnopaa
/- A call as a step of a region that draws. -/
namespace Go.Proofs.Ytmgoaabeopnopaa
open Go.RowKit

theorem step_call {P : Program} {ops : Array Oper} {o : Oper} {a : Act} {w : World} {K : Act → World → Prop} {Q : Exit → Act → World → Prop} {E : Prop} (hgd : o.guard = none) (f : FuncId) (xs : Array Operand) (ts : Array TypeId)
    (ho : o.op = Op.call { callee := Callee.value (Operand.func f), args := xs, argTypes := ts }) {fn : Func} (hf : P.funcs[f]? = some fn) (hname : (fn.name == "runtime.NumGoroutine") = false) (hbody : fn.body.isNone = false) (vals : Array Value) (hv : xs.map a.eval = vals) (R : Ending → World → Prop) (hc : Calls P f vals w R)
    (h : ∀ e w', R e w' → ∃ v, e = .returned v ∧ K (a.put o.dst v) w') :
    if Region.wanted o (yielded ops a.tmps) = true then Oper.wp P o a w K Q else E := by
  have hw : Region.wanted o (yielded ops a.tmps) = true := by simp [Region.wanted, hgd]
  rw [if_pos hw]
  unfold Oper.wp
  have e1 : (execOp a.eval o).run P w = .ok (.enter f vals) w := by
    have h1 : ¬ fn.name = "runtime.NumGoroutine" := by simpa using hname
    have h2 : ¬ fn.body = none := fun e => by rw [e] at hbody; simp at hbody
    simp [execOp, ho, resolve, invoke, hv, Act.eval, Deferred.ofValue, callFunc, hf, h1, h2]
  rw [e1, Oper.upon_enter]
  refine hc.mono fun e w' hr => ?_
  obtain ⟨v, rfl, hk⟩ := h e w' hr
  exact hk
end Go.Proofs.Ytmgoaabeopnopaa
/- Rows out of a slice literal; rows behind rows. Plain facts. -/
namespace Go.Proofs.Ytmgoaabeopnopaa
open Go.RowKit

section
variable {w wm w4 : World} {lo i j : Nat} {Ps : List Pc} {t e n c n2 c2 : Nat} {A A2 : Option Addr} {vals vals2 : List Value} {xss yss : List (List Int)} {xs : List Int}
/-- A slice with one element that is a slice of its own. -/
theorem Sep.ownRow {A1 : Option Addr} {c1 m : Nat} (h : Sep w lo Ps) (hi : Ps[i]? = some (.own e A 1 c [.slice A1 m c1])) (hj : Ps[j]? = some (.own t A1 m c1 (ints xs))) (hm : xs.length = m) (hij : i ≠ j) (hlo : lo ≤ w.heap.size) :
    Sep w lo ((Ps.set i (.rows t e A 1 c [.slice A1 m c1] [xs])).set j .emp) := by
  subst hm
  refine h.merge hi hj hij (Nat.le_refl _) hlo fun F G h1 h2 hF hG hd => ?_
  obtain ⟨g1, g2⟩ := h1
  obtain ⟨d1, d2⟩ := h2
  refine ⟨fun a => F a ∨ G a, ⟨g1, fun a ha => .inl (g2 a ha), rfl, fun k zs hk => ?_, fun a b u v hab hu hv => ?_⟩, fun a ha => by rcases ha with h | h; exact .inl h; exact .inr (.inl h), fun a _ _ _ => rfl⟩
  · match k, hk with
    | 0, hk =>
      injection hk with hk
      subst hk
      exact ⟨A1, c1, rfl, d1, fun a ha => .inr (d2 a ha)⟩
  · have h1 := (List.getElem?_eq_some_iff.1 hu).1
    have h2 := (List.getElem?_eq_some_iff.1 hv).1
    simp at h1 h2
    omega
/-- Rows are put behind rows. -/
theorem Sep.rowsCat {A4 : Option Addr} {c4 base : Nat} (h : Sep w lo Ps) (hi : Ps[i]? = some (.rows t e A n c vals xss)) (hj : Ps[j]? = some (.rows t e A2 n2 c2 vals2 yss)) (hij : i ≠ j) (het : e ≠ t) (hlo : lo ≤ w.heap.size)
    (hb : Below w.heap.size w wm) (own4 : w4.ownsRow base e 1 (.slice A4 (n + n2) c4) (n + n2) (vals ++ vals2)) (gr : wm.grownBy w4 (Value.slice A n c).ownBlock)
    (hat : (Value.slice A4 (n + n2) c4).ownBlock = (Value.slice A n c).ownBlock ∨ ∀ b, (Value.slice A4 (n + n2) c4).ownBlock = some b → w.heap.size ≤ b) :
    Sep w4 lo ((Ps.set i (.rows t e A4 (n + n2) c4 (vals ++ vals2) (xss ++ yss))).set j .emp) := by
  have hs := hb.size
  have hs4 := gr.size
  refine h.merge hi hj hij (by omega) hlo fun F G h1 h2 hF hG hd => ?_
  obtain ⟨g1, g2, g3, g4, g5⟩ := h1
  obtain ⟨d1, d2, d3, d4, d5⟩ := h2
  have q1 := own_below g1 hb (Nat.le_refl _)
  have keep : ∀ (A3 : Option Addr) (c3 : Nat) (zs : List Int), w.ownsRow 0 t 1 (.slice A3 zs.length c3) zs.length (ints zs) → w4.ownsRow 0 t 1 (.slice A3 zs.length c3) zs.length (ints zs) := fun A3 c3 zs ho => by
    have := own_below ho hb (Nat.le_refl _)
    exact this.kept gr (own_ne2 this q1 (fun h => het h.symm))
  have hvl : vals.length = n := by have := g1.1; omega
  have hvl2 : vals2.length = n2 := by have := d1.1; omega
  refine ⟨fun a => F a ∨ G a ∨ (w.heap.size ≤ a ∧ a < w4.heap.size), ⟨own_base own4 (Nat.zero_le _), fun a ha => ?_, by simp [g3, d3], fun k zs hk => ?_, ?_⟩, fun a ha => ha, fun a ha hF' hG' => ?_⟩
  · rcases hat with h | h
    · exact .inl (g2 a (by rw [← h]; exact ha))
    · exact .inr (.inr ⟨h a ha, (own4.lt a ha).2⟩)
  · by_cases ek : k < xss.length
    · rw [List.getElem?_append_left ek] at hk
      obtain ⟨A3, c3, b1, b2, b3⟩ := g4 k zs hk
      exact ⟨A3, c3, by rw [List.getElem?_append_left (by omega)]; exact b1, keep A3 c3 zs b2, fun a ha => .inl (b3 a ha)⟩
    · rw [List.getElem?_append_right (by omega)] at hk
      obtain ⟨A3, c3, b1, b2, b3⟩ := d4 _ zs hk
      exact ⟨A3, c3, by rw [List.getElem?_append_right (by omega), hvl, ← g3]; exact b1, keep A3 c3 zs b2, fun a ha => .inr (.inl (b3 a ha))⟩
  · have hold : ∀ (a : Nat) (u : Value), vals[a]? = some u → ∀ x, u.ownBlock = some x → F x := fun a u hu x hx => by
      have hal : a < xss.length := by have := (List.getElem?_eq_some_iff.1 hu).1; omega
      obtain ⟨A3, c3, b1, b2, b3⟩ := g4 a _ (List.getElem?_eq_getElem hal)
      rw [hu] at b1
      injection b1 with b1
      subst b1
      exact b3 x hx
    have hold2 : ∀ (a : Nat) (u : Value), vals2[a]? = some u → ∀ x, u.ownBlock = some x → G x := fun a u hu x hx => by
      have hal : a < yss.length := by have := (List.getElem?_eq_some_iff.1 hu).1; omega
      obtain ⟨A3, c3, b1, b2, b3⟩ := d4 a _ (List.getElem?_eq_getElem hal)
      rw [hu] at b1
      injection b1 with b1
      subst b1
      exact b3 x hx
    have hcase : ∀ (a : Nat) (u : Value), (vals ++ vals2)[a]? = some u → (a < n ∧ vals[a]? = some u) ∨ (n ≤ a ∧ vals2[a - n]? = some u) := fun a u hu => by
      by_cases ha : a < vals.length
      · rw [List.getElem?_append_left ha] at hu; exact .inl ⟨by omega, hu⟩
      · rw [List.getElem?_append_right (by omega), hvl] at hu; exact .inr ⟨by omega, hu⟩
    intro a b u v hab hu hv x hx hvx
    rcases hcase a u hu with ⟨l1, h1⟩ | ⟨l1, h1⟩
    · rcases hcase b v hv with ⟨l2, h2⟩ | ⟨l2, h2⟩
      · exact g5 a b u v hab h1 h2 x hx hvx
      · exact hd x (hold a u h1 x hx) (hold2 _ v h2 x hvx)
    · rcases hcase b v hv with ⟨l2, h2⟩ | ⟨l2, h2⟩
      · exact hd x (hold b v h2 x hvx) (hold2 _ u h1 x hx)
      · exact d5 (a - n) (b - n) u v (by omega) h1 h2 x hx hvx
  · rw [gr.block a (by omega) (fun e => hF' (g2 a e.symm)), hb.block a ha]
end
section
variable {w0 w w4 : World} {i j : Nat} {Ps : List Pc} {t e n c n2 c2 : Nat} {A A2 : Option Addr} {vals vals2 : List Value} {xss yss : List (List Int)} {xs : List Int}
theorem St.rowLit {A1 : Option Addr} {c1 m : Nat} (h : St w0 w Ps) (hj : Ps[j]? = some (.own t A1 m c1 (ints xs))) (hm : xs.length = m) (e : TypeId) : St w0 (w.alloc (.cells #[.slice A1 m c1] e)) ((Ps ++ [Pc.rows t e (some ⟨w.heap.size, 0, none⟩) 1 1 [.slice A1 m c1] [xs]]).set j Pc.emp) := by
  have hjl := (List.getElem?_eq_some_iff.1 hj).1
  have h1 := h.addLit1 (.slice A1 m c1) e
  have h2 := h1.sep.ownRow (i := Ps.length) (j := j) (last_at _ _) (by rw [List.getElem?_append_left hjl]; exact hj) hm (by omega) h1.lo
  refine ⟨?_, h1.below⟩
  rw [List.set_append_right _ _ (Nat.le_refl _), Nat.sub_self, List.set_cons_zero] at h2
  exact h2
theorem St.rowsCat {A4 : Option Addr} {c4 base : Nat} (h : St w0 w Ps) (hi : Ps[i]? = some (.rows t e A n c vals xss)) (hj : Ps[j]? = some (.rows t e A2 n2 c2 vals2 yss)) (hij : i ≠ j) (het : e ≠ t)
    (own4 : w4.ownsRow base e 1 (.slice A4 (n + n2) c4) (n + n2) (vals ++ vals2)) (gr : w.grownBy w4 (Value.slice A n c).ownBlock)
    (hat : (Value.slice A4 (n + n2) c4).ownBlock = (Value.slice A n c).ownBlock ∨ (Value.slice A4 (n + n2) c4).ownBlock = some w.heap.size) :
    St w0 w4 ((Ps.set i (.rows t e A4 (n + n2) c4 (vals ++ vals2) (xss ++ yss))).set j .emp) :=
  ⟨h.sep.rowsCat hi hj hij het h.lo (Below.refl _ _) own4 gr (hat_of0 hat), h.below.grown gr h.lo fun k hk => ((h.rows hi).lt k hk).1⟩
end
end Go.Proofs.Ytmgoaabeopnopaa
