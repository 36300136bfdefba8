/- Draws beside pieces of memory: the source lies below the pieces; its turning is laid into the base. Plain facts. -/
import Derived.Test.YtckmmgepoccopaaStm
import Derived.Test.YtckmmgepoccopaaL5
import Derived.Test.YtckmmgepoccopaaInv
namespace Go.Proofs.Ytckmmgepoccopaa
open Go.RowKit

section
variable {w w' wb w0 : World} {g lo n c : Nat} {A : Option Addr} {bs : List Value} {Ps Qs : List Pc}
theorem Sep.turns (h : Sep w lo Ps) (tu : Turns g (g + 1) w w') (hg : g < lo) : Sep w' lo Ps := by
  obtain ⟨Fs, h1, h2, h3⟩ := h
  refine ⟨Fs, fun i P hi => P.kept (h1 i P hi) fun k hk => ?_, fun i k hi hk => ?_, h3⟩
  · have := h2 i k (List.getElem?_eq_some_iff.1 hi).1 hk
    exact tu.block k this.2 (.inr (by omega))
  · have := h2 i k hi hk
    have := tu.size
    omega
theorem SrcE.same (hs : SrcE w g A n c bs) (h : ∀ k, k ≤ g → w'.heap[k]? = w.heap[k]?) : SrcE w' g A n c bs := by
  obtain ⟨a, x, hs⟩ := hs
  have hb := h g (Nat.le_refl _)
  have hc : ∀ k, w'.cell? ⟨g, k, none⟩ = w.cell? ⟨g, k, none⟩ := fun k => by unfold World.cell?; simp only [hb]
  have hf : ∀ k, w'.frozen? ⟨g, k, none⟩ = w.frozen? ⟨g, k, none⟩ := fun k => by unfold World.frozen?; simp only [hb]
  refine ⟨a, x, (hc 0).trans hs.c0, (hc 1).trans hs.c1, (hc 2).trans hs.c2, (hf 1).trans hs.f1, (hf 2).trans hs.f2, hs.le, ?_, hs.len, hs.u8, hs.out⟩
  intro hl
  obtain ⟨b, o, e, hcc⟩ := hs.rd hl
  refine ⟨b, o, e, fun k u hu => ?_⟩
  have h1 := hcc k u hu
  have h2 := h b (by have := hs.out hl b o e; omega)
  rw [← h1]
  unfold World.cell?
  simp only [h2]
/-- The base with the source as it stands now. -/
def patchW (g : Nat) (wb w' : World) : World := match w'.heap[g]? with | some o => { wb with heap := wb.heap.setIfInBounds g o } | none => wb
theorem patch_size : (patchW g wb w').heap.size = wb.heap.size := by
  unfold patchW
  split <;> simp
theorem patch_turns : Turns g (g + 1) wb (patchW g wb w') := by
  unfold patchW
  split
  · refine ⟨rfl, rfl, rfl, by simp, fun k hk h => ?_⟩
    have hne : g ≠ k := by omega
    simp [hne]
  · exact Turns.refl _ _ _
theorem patch_below (h : Below wb.heap.size wb w) (tu : Turns g (g + 1) w w') (hg : g < wb.heap.size) : Below (patchW g wb w').heap.size (patchW g wb w') w' := by
  have hs := h.size
  have hs2 := tu.size
  have hgo : ∃ o, w'.heap[g]? = some o := ⟨_, Array.getElem?_eq_getElem (by omega)⟩
  obtain ⟨o, ho⟩ := hgo
  have e : patchW g wb w' = { wb with heap := wb.heap.setIfInBounds g o } := by unfold patchW; rw [ho]
  rw [e]
  refine ⟨tu.os.trans h.os, tu.tape.trans h.tape, tu.output.trans h.output, by simp; omega, fun k hk => ?_⟩
  have hk : k < wb.heap.size := by simpa using hk
  by_cases hkg : g = k
  · subst hkg
    rw [ho]
    simp [hg]
  · rw [tu.block k (by omega) (by omega), h.block k hk]
    simp [hkg]
theorem St.patch (st : St wb w Ps) (tu : Turns g (g + 1) w w') (hg : g < wb.heap.size) : St (patchW g wb w') w' Ps :=
  ⟨by rw [patch_size]; exact st.sep.turns tu hg, patch_below st.below tu hg⟩

/-- The base w0 with the source turned. -/
structure Dr (g : Nat) (A : Option Addr) (n c : Nat) (bs : List Value) (w0 wb : World) : Prop where
  size : wb.heap.size = w0.heap.size
  tu : Turns g (g + 1) w0 wb
  src : SrcE wb g A n c bs
theorem Dr.lt (d : Dr g A n c bs w0 wb) : g < wb.heap.size := d.src.lt
theorem Dr.start (hs : SrcE w g A n c bs) : Dr g A n c bs w w := ⟨rfl, Turns.refl _ _ _, hs⟩
theorem Dr.now (d : Dr g A n c bs w0 wb) (st : St wb w Ps) : SrcE w g A n c bs := d.src.same fun k hk => st.below.block k (by have := d.lt; omega)
theorem Dr.num (d : Dr g A n c bs w0 wb) (st : St wb w Ps) (hs : SrcE w' g A n c bs) (tu : Turns g (g + 1) w w') : ∃ wb', Dr g A n c bs w0 wb' ∧ St wb' w' Ps := by
  have st2 := st.patch tu d.lt
  refine ⟨patchW g wb w', ⟨patch_size.trans d.size, d.tu.trans patch_turns, hs.same fun k hk => ?_⟩, st2⟩
  exact (st2.below.block k (by rw [patch_size]; have := d.lt; omega)).symm
theorem Dr.join {wb2 : World} (d : Dr g A n c bs w0 wb) (st : St wb w Ps) (d2 : Dr g A n c bs w wb2) (st2 : St wb2 w' Qs) : ∃ wb', Dr g A n c bs w0 wb' ∧ St wb' w' (Ps ++ Qs) := by
  obtain ⟨wb', d3, st3⟩ := d.num st d2.src d2.tu
  exact ⟨wb', d3, st3.join st2⟩
theorem Dr.of (hs : SrcE w' g A n c bs) (tu : Turns g (g + 1) w w') (hg : g < w.heap.size) (sep : Sep w' w.heap.size Ps) : ∃ wb, Dr g A n c bs w wb ∧ St wb w' Ps := by
  have hb := patch_below (wb := w) (Below.refl w.heap.size w) tu hg
  refine ⟨patchW g w w', ⟨patch_size, patch_turns, hs.same fun k hk => ?_⟩, ⟨by rw [patch_size]; exact sep, hb⟩⟩
  exact (hb.block k (by rw [patch_size]; omega)).symm
theorem Dr.fin (d : Dr g A n c bs w0 wb) (st : St wb w Ps) : Turns g (g + 1) w0 w ∧ Sep w w0.heap.size Ps :=
  ⟨d.tu.trans (Turns.of_below st.below (Nat.le_refl _)), by rw [← d.size]; exact st.sep⟩
theorem Sep.one {P : Pc} {F : Nat → Prop} (h : P.holds w F) (hF : ∀ k, F k → lo ≤ k ∧ k < w.heap.size) : Sep w lo [P] := by
  refine ⟨fun _ => F, fun i Q hi => ?_, fun i k _ hk => hF k hk, fun i j k hi hj hij => ?_⟩
  · match i, hi with
    | 0, hi => injection hi with hi; subst hi; exact h
  · simp at hi hj
    omega
theorem Sep.oneOwn {e m c' : Nat} {A' : Option Addr} {vs : List Value} (h : w.ownsRow lo e 1 (.slice A' m c') m vs) : Sep w lo [.own e A' m c' vs] :=
  Sep.one (F := fun k => (Value.slice A' m c').ownBlock = some k) ⟨own_base h (Nat.zero_le _), fun _ hk => hk⟩ fun k hk => h.lt k hk
/-- A piece is known less of. -/
theorem St.less {i : Nat} {P P' : Pc} (h : St w0 w Ps) (hi : Ps[i]? = some P) (hP : ∀ F, P.holds w F → P'.holds w F) : St w0 w (Ps.set i P') :=
  ⟨h.sep.step hi (Nat.le_refl _) h.lo fun F h1 _ => ⟨F, hP F h1, fun _ hk => .inl hk, fun _ _ _ => rfl⟩, h.below⟩

/-- Rows that can be read. -/
def Pc.rds (A : Option Addr) (xss : List (List Int)) : Pc :=
  ⟨fun w F => RdSS w A xss ∧ (∀ b o, A = some ⟨b, o, none⟩ → 0 < xss.length → F b) ∧ ∀ (b o j : Nat) (A' : Option Addr) (m c : Nat), A = some ⟨b, o, none⟩ → j < xss.length → w.cell? ⟨b, o + j, none⟩ = some (.slice A' m c) → ∀ b' o', A' = some ⟨b', o', none⟩ → 0 < m → F b', fun {w w' F} h hk => by
    obtain ⟨⟨vals, h1, h2, h3⟩, h4, h5⟩ := h
    have hcell : ∀ b o j, A = some ⟨b, o, none⟩ → j < xss.length → w'.cell? ⟨b, o + j, none⟩ = w.cell? ⟨b, o + j, none⟩ := fun b o j e hj => by
      have := hk b (h4 b o e (by omega))
      unfold World.cell?
      simp only [this]
    refine ⟨⟨vals, fun hl => ?_, h2, fun j xs hj => ?_⟩, h4, fun b o j A' m c e hj hc => h5 b o j A' m c e hj (by rw [← hcell b o j e hj]; exact hc)⟩
    · obtain ⟨b, o, e, hc⟩ := h1 hl
      refine ⟨b, o, e, fun k u hu => ?_⟩
      have hkl : k < xss.length := by have := (List.getElem?_eq_some_iff.1 hu).1; omega
      rw [hcell b o k e hkl]
      exact hc k u hu
    · obtain ⟨A', c', a1, a2, a3⟩ := h3 j xs hj
      refine ⟨A', c', a1, fun hl => ?_, a3⟩
      obtain ⟨b', o', e', hc'⟩ := a2 hl
      refine ⟨b', o', e', fun k u hu => ?_⟩
      have hjl := (List.getElem?_eq_some_iff.1 hj).1
      obtain ⟨b, o, e, hc⟩ := h1 (by omega)
      have hF := h5 b o j A' xs.length c' e hjl (hc j _ a1) b' o' e' (by simpa using hl)
      have := hk b' hF
      have h6 := hc' k u hu
      rw [← h6]
      unfold World.cell?
      simp only [this]⟩
end
end Go.Proofs.Ytckmmgepoccopaa
