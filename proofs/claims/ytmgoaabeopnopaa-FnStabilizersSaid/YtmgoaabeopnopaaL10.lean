import Derived.Test.YtmgoaabeopnopaaL9
import Derived.StillTailTactics
/- First words: plain facts, and what holds of the memory at the loop of impl. -/
namespace Go.Proofs.Ytmgoaabeopnopaa
open Go.RowKit

/-- The first generator that leads nearer. -/
def stK (xss : List (List Int)) (D : List Int) (f : Int) : Nat := xss.findIdx fun g => decide (fz D (fz g f) < fz D f)
def fwL (xss : List (List Int)) (D : List Int) : Nat → Int → List Int
  | 0, _ => []
  | e + 1, f => ((stK xss D f : Nat) : Int) :: fwL xss D e (fz (xss.getD (stK xss D f) []) f)
theorem fwL_len (xss : List (List Int)) (D : List Int) : ∀ (e : Nat) (f : Int), (fwL xss D e f).length = e
  | 0, _ => rfl
  | e + 1, f => by unfold fwL; simp [fwL_len xss D e]
section
variable {xss : List (List Int)} {n t f : Nat}
theorem free_inv {g : List Int} (hl : g.length = n) (hp : okP g = true) (hfr : freeP g = true) (hf : f < n) : fz g (fz g f) = (f : Int) := by
  have h1 := List.getElem?_eq_getElem (show f < g.length by omega)
  obtain ⟨q, hq, hqn⟩ := okP_at hp hl h1
  rw [hq] at h1
  have h2 := List.getElem?_eq_getElem (show q < g.length by omega)
  rw [fz_at h1, fz_at h2]
  apply Classical.byContradiction
  intro hne
  have := free_not_back h1 h2 hne
  rw [hfr] at this
  cases this
/-- What is known of the list of distances from t. -/
structure DFar (xss : List (List Int)) (n t : Nat) (D : List Int) : Prop where
  len : D.length = n
  at_ : ∀ y : Nat, y < n → ∃ d : Nat, D[y]? = some (d : Int) ∧ d < n
  self : D[t]? = some 0
  step : ∀ y : Nat, y < n → y ≠ t → stK xss D y < xss.length ∧ ∃ (g : List Int) (z : Nat), xss[stK xss D y]? = some g ∧ fz g y = (z : Int) ∧ z < n ∧ fz D z + 1 = fz D y
  near : ∀ (k : Nat) (g : List Int) (y : Nat), y < n → xss[k]? = some g → fz D y ≤ fz D (fz g y) + 1
  first : ∀ (k : Nat) (g : List Int) (y : Nat), k < stK xss D y → xss[k]? = some g → ¬ fz D (fz g y) < fz D y
  pos : ∀ y : Nat, y < n → y ≠ t → 0 < fz D y
theorem dfar_of (hsys : okSys n xss = true) (ht : t < n) (hall : (orbL xss n t).length = n) (hfree : ∀ g ∈ xss, freeP g = true) : DFar xss n t (distL xss n t) := by
  have hd := dok_distL hsys ht hall
  obtain ⟨j0, _, ho⟩ := oinv_orb hsys ht
  have hat : ∀ y : Nat, y < n → ∃ d : Nat, (distL xss n t)[y]? = some (d : Int) ∧ IsD xss t y d := hd.2
  have hfz : ∀ y : Nat, y < n → ∃ d : Nat, fz (distL xss n t) y = (d : Int) ∧ IsD xss t y d := fun y hy => by
    obtain ⟨d, h1, h2⟩ := hat y hy
    exact ⟨d, fz_at h1, h2⟩
  have hnear : ∀ (k : Nat) (g : List Int) (y : Nat), y < n → xss[k]? = some g → fz (distL xss n t) y ≤ fz (distL xss n t) (fz g y) + 1 := fun k g y hy hg => by
    have hgm := List.mem_of_getElem? hg
    have him := sys_img hsys hgm (x := (y : Int)) (by omega) (by omega)
    obtain ⟨z, hz⟩ := Int.eq_ofNat_of_zero_le him.1
    obtain ⟨d, hd1, hd2⟩ := hfz y hy
    obtain ⟨e, he1, he2⟩ := hfz z (by omega)
    obtain ⟨e', he3, he4⟩ := isD_step he2 hgm
    have hr := (sys_parts hsys).2.2.2 g hgm
    have hb := free_inv (n := n) (by omega) hr.2 (hfree g hgm) hy
    rw [hz] at hb
    rw [hb] at he4
    have := isD_uniq he4 hd2
    rw [hz, hd1, he1]
    omega
  have hstep : ∀ y : Nat, y < n → y ≠ t → ∃ (k : Nat) (g : List Int) (z : Nat), xss[k]? = some g ∧ fz g y = (z : Int) ∧ z < n ∧ fz (distL xss n t) z < fz (distL xss n t) y := fun y hy hne => by
    obtain ⟨d, hd1, hd2⟩ := hfz y hy
    obtain ⟨g, hg, u, m, hu, hm, hmd⟩ := isD_pred hd2 (by omega)
    have hur := wn_in hsys ho m hm.1
    obtain ⟨z, rfl⟩ := Int.eq_ofNat_of_zero_le hur.1
    obtain ⟨e, he1, he2⟩ := hfz z (by omega)
    have hr := (sys_parts hsys).2.2.2 g hg
    have hb := free_inv (n := n) (f := z) (by omega) hr.2 (hfree g hg) (by omega)
    rw [hu] at hb
    have := isD_uniq he2 hm
    obtain ⟨k, hk, hgk⟩ := List.mem_iff_getElem.1 hg
    exact ⟨k, g, z, by rw [List.getElem?_eq_getElem hk, hgk], hb, by omega, by rw [he1, hd1]; omega⟩
  refine ⟨hd.1, fun y hy => distL_at hsys ht hall hy, ?_, ?_, hnear, ?_, ?_⟩
  · obtain ⟨d, h1, h2⟩ := hat t ht
    rw [h1, isD_uniq h2 isD_zero]; rfl
  · intro y hy hne
    obtain ⟨k, g, z, hg, hz, hzn, hlt⟩ := hstep y hy hne
    have hk : stK xss (distL xss n t) y < xss.length := by
      refine List.findIdx_lt_length_of_exists ⟨g, List.mem_of_getElem? hg, ?_⟩
      rw [hz]
      exact decide_eq_true hlt
    have hp := List.findIdx_getElem (p := fun g => decide (fz (distL xss n t) (fz g y) < fz (distL xss n t) y)) (w := hk)
    have hp := of_decide_eq_true hp
    have hgk := List.getElem?_eq_getElem hk
    have him := sys_img hsys (List.mem_of_getElem? hgk) (x := (y : Int)) (by omega) (by omega)
    obtain ⟨z2, hz2⟩ := Int.eq_ofNat_of_zero_le him.1
    have hnr := hnear _ _ y hy hgk
    refine ⟨hk, _, z2, hgk, hz2, by omega, ?_⟩
    change fz (distL xss n t) (fz xss[stK xss (distL xss n t) y] y) < fz (distL xss n t) y at hp
    rw [hz2] at hp hnr
    omega
  · intro k g y hk hg
    have := List.not_of_lt_findIdx hk
    have hkl := (List.getElem?_eq_some_iff.1 hg)
    obtain ⟨h1, h2⟩ := hkl
    rw [h2] at this
    simpa using this
  · intro y hy hne
    obtain ⟨k, g, z, hg, hz, hzn, hlt⟩ := hstep y hy hne
    obtain ⟨e, he1, _⟩ := hfz z hzn
    rw [he1] at hlt
    omega
end
/-- What is known when the flag is f: e moves are still to be made. -/
structure FwI (xss : List (List Int)) (n t : Nat) (D full W : List Int) (e f : Nat) : Prop where
  eq : W ++ fwL xss D e f = full
  fn : f < n
  dist : fz D f = (e : Int)
section
variable {xss : List (List Int)} {n t e f : Nat} {D full W : List Int}
theorem fwi_end (hd : DFar xss n t D) (h : FwI xss n t D full W e t) : W = full := by
  have h1 := h.dist
  rw [fz_at hd.self] at h1
  have : e = 0 := by omega
  subst this
  simpa [fwL] using h.eq
theorem fwi_step (hd : DFar xss n t D) (h : FwI xss n t D full W e f) (hne : f ≠ t) : ∃ (g : List Int) (z e' : Nat), e = e' + 1 ∧ stK xss D f < xss.length ∧ xss[stK xss D f]? = some g ∧ fz g f = (z : Int) ∧ z < n ∧ FwI xss n t D full (W ++ [((stK xss D f : Nat) : Int)]) e' z := by
  obtain ⟨hk, g, z, hg, hz, hzn, hdz⟩ := hd.step f h.fn hne
  have hp := hd.pos f h.fn hne
  rw [h.dist] at hp hdz
  obtain ⟨e', rfl⟩ : ∃ e', e = e' + 1 := ⟨e - 1, by omega⟩
  have he := h.eq
  unfold fwL at he
  have hgd : xss.getD (stK xss D f) [] = g := by simp [List.getD, hg]
  rw [hgd, hz] at he
  exact ⟨g, z, e', rfl, hk, hg, hz, hzn, by simpa using he, hzn, by omega⟩
end
end Go.Proofs.Ytmgoaabeopnopaa
namespace Go.Proofs.Ytmgoaabeopnopaa
open Go.RowKit

def fwRes (xss : List (List Int)) (D : List Int) (p : Nat) : List Int := if 64 < fz D p then [] else fwL xss D (fz D p).toNat p
def fwCode (D : List Int) (p : Nat) : Int := if 64 < fz D p then 3 else 0
noncomputable def fwR (xss : List (List Int)) (f t : Int) : List Int := if okMan xss then (if flagB (flN xss) f then (if flagB (flN xss) t then fwRes xss (distL xss (flN xss) t) f.toNat else []) else []) else []
noncomputable def fwC (xss : List (List Int)) (f t : Int) : Int := if okMan xss then (if flagB (flN xss) f then (if flagB (flN xss) t then fwCode (distL xss (flN xss) t) f.toNat else 2) else 2) else 1
theorem fwR_le (xss : List (List Int)) (f t : Int) : (fwR xss f t).length ≤ 1048576 := by
  unfold fwR
  split
  · split
    · split
      · unfold fwRes
        split
        · simp
        · rw [fwL_len]; omega
      · simp
    · simp
  · simp
theorem retS_no {w w' : World} {L : List Int} {C k : Int} (hL : L = []) (hC : C = k) (bel : Below w.heap.size w w') : RetS w L C (.returned (.tuple #[.slice none 0 0, .int .i64 k])) w' := by
  subst hL; subst hC
  exact ⟨none, 0, rfl, World.ownsRow_nil _ _ _ _, bel⟩
theorem retS_yes {w w' : World} {L K : List Int} {C k : Int} {A : Option Addr} {c m base : Nat} (hL : K = L) (hC : C = k) (own : w'.ownsRow base 2 1 (.slice A m c) m (ints K)) (hb : w.heap.size ≤ base) (bel : Below w.heap.size w w') : RetS w L C (.returned (.tuple #[.slice A m c, .int .i64 k])) w' := by
  subst hL; subst hC
  obtain rfl : K.length = m := by have := own.1; simpa using this
  exact ⟨A, c, rfl, own_base own hb, bel⟩

end Go.Proofs.Ytmgoaabeopnopaa
namespace Go.Proofs.Ytmgoaabeopnopaa
open Go.RowKit

/-- The word under way, and the flag in a cell of its own. -/
structure FSt (W2 wr : World) (g9 f : Nat) (A : Option Addr) (m c : Nat) (K : List Int) : Prop where
  bel : Below W2.heap.size W2 wr
  word : wr.ownsRow W2.heap.size 2 1 (.slice A m c) m (ints K)
  nil : m = 0 → A = none ∧ c = 0
  flag : wr.ownsRow W2.heap.size 2 1 (.slice (some ⟨g9, 0, none⟩) 1 1) 1 (ints [(f : Int)])
  ap : ∀ k, (Value.slice A m c).ownBlock = some k → k ≠ g9
section
variable {W2 wr w2 w4 : World} {g9 f m c : Nat} {A : Option Addr} {K : List Int}
theorem FSt.go (h : FSt W2 wr g9 f A m c K) (hb : Below wr.heap.size wr w2) : FSt W2 w2 g9 f A m c K :=
  ⟨h.bel.trans (hb.mono h.bel.size), own_below h.word hb (Nat.le_refl _), h.nil, own_below h.flag hb (Nat.le_refl _), h.ap⟩
theorem fst_start (W2 : World) (f : Nat) : FSt W2 (W2.alloc (.cells #[.int .i64 (f : Int)] 2)) W2.heap.size f none 0 0 [] :=
  ⟨below1 _ _, World.ownsRow_nil _ _ _ _, fun _ => ⟨rfl, rfl⟩, by simpa using World.ownsRow_lit (base := W2.heap.size) (e := 2) (size := 1) W2 #[.int .i64 (f : Int)] 1 (Nat.le_refl _) (by decide) (by simp), fun k hk => by simp [Value.ownBlock] at hk⟩
theorem FSt.cell (h : FSt W2 wr g9 f A m c K) : wr.cell? ⟨g9, 0, none⟩ = some (.int .i64 (f : Int)) := own_cell h.flag rfl
theorem FSt.free (h : FSt W2 wr g9 f A m c K) : wr.frozen? ⟨g9, 0, none⟩ = false := h.flag.frozenAt 0
theorem FSt.glt (h : FSt W2 wr g9 f A m c K) : W2.heap.size ≤ g9 ∧ g9 < wr.heap.size := h.flag.lt g9 rfl
theorem FSt.push {o : Obj} {A4 : Option Addr} {c4 : Nat} {x : Int} (h : FSt W2 wr g9 f A m c K) (own4 : w4.ownsRow W2.heap.size 2 1 (.slice A4 (m + 1) c4) (m + 1) (ints K ++ [.int .i64 x]))
    (hb : m = 0 → ∀ k, (Value.slice A4 (m + 1) c4).ownBlock = some k → wr.heap.size ≤ k) (gr : (wr.alloc o).grownBy w4 (Value.slice A m c).ownBlock) : FSt W2 w4 g9 f A4 (m + 1) c4 (K ++ [x]) := by
  have hw := h.bel.size
  have hf := (h.flag.alloc o).kept gr (by
    cases hk : (Value.slice A m c).ownBlock with
    | none => exact .inr (by simp [Value.ownBlock])
    | some k =>
      right
      intro he
      have h1 := h.ap k hk
      simp [Value.ownBlock] at he
      exact h1 he.symm)
  refine ⟨(h.bel.alloc hw o).grown gr (by simp; omega) fun k hk => (h.word.lt k hk).1, by simpa using own4, fun h0 => absurd h0 (by omega), hf, fun k hk he => ?_⟩
  subst he
  have hg := h.glt
  by_cases h0 : m = 0
  · have := hb h0 k hk
    omega
  · rcases own4.2 with ⟨_, h1⟩ | ⟨g, cap, cur, hv, _, hc1, hn1, _, hs1, _⟩
    · omega
    · simp only [Value.slice.injEq] at hv
      obtain ⟨rfl, _, _⟩ := hv
      have hgk : g = k := by simpa [Value.ownBlock] using hk
      subst hgk
      rcases hf.2 with ⟨hv2, _⟩ | ⟨g', cap', cur', hv2, _, hc2, _, _, hs2, _⟩
      · cases hv2
      · simp only [Value.slice.injEq, Option.some.injEq, Addr.mk.injEq, and_true, true_and] at hv2
        obtain ⟨rfl, rfl⟩ := hv2
        rw [hc1] at hc2
        injection hc2 with hc2
        injection hc2 with hc2
        rw [hc2] at hs1
        omega
theorem FSt.put (h : FSt W2 wr g9 f A m c K) (z : Nat) : FSt W2 (wr.setCell ⟨g9, 0, none⟩ (.int .i64 (z : Int))) g9 z A m c K := by
  have hst := h.flag.stored 0 (.int .i64 (z : Int))
  refine ⟨h.bel.setCell (p := ⟨g9, 0, none⟩) h.glt.1 _, h.word.kept hst.2 ?_, h.nil, by simpa using hst.1, h.ap⟩
  cases hk : (Value.slice A m c).ownBlock with
  | none => exact .inl rfl
  | some k =>
    right
    intro he
    have h1 := h.ap k hk
    simp at he
    exact h1 he
theorem FSt.next (h : FSt W2 wr g9 f A m c K) : FSt W2 (wr.alloc (.cells #[.int .i64 (f : Int)] 2)) wr.heap.size f A m c K :=
  ⟨h.bel.trans ((below1 wr _).mono h.bel.size), own_below h.word (below1 wr _) (Nat.le_refl _), h.nil,
   by simpa using World.ownsRow_lit (base := W2.heap.size) (e := 2) (size := 1) wr #[.int .i64 (f : Int)] 1 h.bel.size (by decide) (by simp), fun k hk => by have := (h.word.lt k hk).2; omega⟩
end

end Go.Proofs.Ytmgoaabeopnopaa
namespace Go.Proofs.Ytmgoaabeopnopaa
open Go.RowKit

end Go.Proofs.Ytmgoaabeopnopaa
