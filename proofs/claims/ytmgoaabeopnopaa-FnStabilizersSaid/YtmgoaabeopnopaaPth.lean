/- Distances are the same both ways; what FnPaths asks. -/
import Derived.Test.YtmgoaabeopnopaaFcn
import Derived.Test.YtmgoaabeopnopaaL10
namespace Go.Proofs.Ytmgoaabeopnopaa
open Go.RowKit

section
variable {xss : List (List Int)} {n t f : Nat} {p x : Int} {g : List Int}
theorem wn_front : ∀ (k : Nat) {x : Int}, g ∈ xss → Wn xss (fz g p) k x → Wn xss p (k + 1) x
  | 0, x, hg, h => ⟨g, hg, p, rfl, (show x = fz g p from h).symm⟩
  | k + 1, _, hg, h => by
    obtain ⟨g2, hg2, y, hy, he⟩ := h
    exact ⟨g2, hg2, y, wn_front k hg hy, he⟩
theorem wn_back (hsys : okSys n xss = true) (hfree : ∀ g ∈ xss, freeP g = true) (hp : f < n) : ∀ (k : Nat) {x : Int}, Wn xss f k x → 0 ≤ x ∧ x < (n : Int) ∧ Wn xss x k f
  | 0, x, h => by have h : x = f := h; subst h; exact ⟨by omega, by omega, rfl⟩
  | k + 1, x, h => by
    obtain ⟨g, hg, y, hy, rfl⟩ := h
    obtain ⟨h0, h1, h2⟩ := wn_back hsys hfree hp k hy
    have hi := sys_img hsys hg h0 h1
    have hr := (sys_parts hsys).2.2.2 g hg
    obtain ⟨y, rfl⟩ := Int.eq_ofNat_of_zero_le h0
    have hb := free_inv (n := n) (f := y) (by omega) hr.2 (hfree g hg) (by omega)
    exact ⟨hi.1, hi.2, wn_front k hg (by rw [hb]; exact h2)⟩
theorem isD_symm (hsys : okSys n xss = true) (hfree : ∀ g ∈ xss, freeP g = true) (hf : f < n) (ht : t < n) {d : Nat} (h : IsD xss f t d) : IsD xss t f d :=
  ⟨(wn_back hsys hfree hf d h.1).2.2, fun k hk hw => h.2 k hk (wn_back hsys hfree ht k hw).2.2⟩
theorem dist_symm (hsys : okSys n xss = true) (hfree : ∀ g ∈ xss, freeP g = true) (hf : f < n) (ht : t < n) (hf1 : (orbL xss n f).length = n) (ht1 : (orbL xss n t).length = n) : fz (distL xss n f) t = fz (distL xss n t) f := by
  obtain ⟨d, h1, h2⟩ := (dok_distL hsys hf hf1).2 t ht
  obtain ⟨e, h3, h4⟩ := (dok_distL hsys ht ht1).2 f hf
  rw [fz_at h1, fz_at h3, isD_uniq h2 (isD_symm hsys hfree ht hf h4)]
theorem runW_cons {z : Int} {k : Int} {l : List Int} : runW xss z (k :: l) = runW xss (stepW xss z k) l := rfl
theorem fwL_run {D : List Int} (hd : DFar xss n t D) : ∀ (e f : Nat), f < n → fz D f = (e : Int) → runW xss f (fwL xss D e f) = t ∧ wordOk xss (fwL xss D e f) = true
  | 0, f, hf, he => by
    have : f = t := Classical.byContradiction fun hne => by have := hd.pos f hf hne; omega
    subst this
    exact ⟨rfl, by simp [wordOk, fwL]⟩
  | e + 1, f, hf, he => by
    have hne : f ≠ t := fun h => by subst h; rw [fz_at hd.self] at he; omega
    obtain ⟨hk, g, z, hg, hz, hzn, hdz⟩ := hd.step f hf hne
    have hgd : xss.getD (stK xss D f) [] = g := by simp [List.getD, hg]
    obtain ⟨h1, h2⟩ := fwL_run hd e z hzn (by omega)
    have hs : stepW xss (f : Int) ((stK xss D f : Nat) : Int) = (z : Int) := by rw [← hz]; simp [stepW, hg, fz]
    unfold fwL
    rw [hgd, hz]
    refine ⟨by rw [runW_cons, hs, h1], ?_⟩
    have h3 := of_decide_eq_true h2
    refine decide_eq_true fun x hx => ?_
    rcases List.mem_cons.1 hx with rfl | hx
    · omega
    · exact h3 x hx
/-- The gap of two neighbours. -/
theorem far_gap {D : List Int} (hd : DFar xss n t D) (hsys : okSys n xss = true) (hfree : ∀ g ∈ xss, freeP g = true) (hg : g ∈ xss) {y z : Nat} (hy : y < n) (hz : fz g y = (z : Int)) : -1 ≤ fz D y - fz D z ∧ fz D y - fz D z ≤ 1 := by
  obtain ⟨k, hk, he⟩ := List.mem_iff_getElem.1 hg
  have hgk : xss[k]? = some g := by rw [List.getElem?_eq_getElem hk, he]
  have hi := sys_img hsys hg (x := (y : Int)) (by omega) (by omega)
  have hr := (sys_parts hsys).2.2.2 g hg
  have hb := free_inv (n := n) (f := y) (by omega) hr.2 (hfree g hg) hy
  have h1 := hd.near k g y hy hgk
  have h2 := hd.near k g z (by omega) hgk
  rw [hz] at hb h1
  rw [hb] at h2
  omega
theorem foldl_max_ge : ∀ (l : List Int) (a : Int), a ≤ l.foldl max a ∧ ∀ x ∈ l, x ≤ l.foldl max a
  | [], a => ⟨Int.le_refl _, by simp⟩
  | y :: l, a => by
    obtain ⟨h1, h2⟩ := foldl_max_ge l (max a y)
    refine ⟨by rw [List.foldl_cons]; omega, fun x hx => ?_⟩
    rw [List.foldl_cons]
    rcases List.mem_cons.1 hx with rfl | hx
    · omega
    · exact h2 x hx
theorem mxL_le {l : List Int} {k : Nat} {x : Int} (hx : l[k]? = some x) : x ≤ mxL l := (foldl_max_ge l 0).2 x (List.mem_of_getElem? hx)
theorem dia_le {xss : List (List Int)} {f : Nat} : ∀ {k : Nat}, f < k → mxL (distL xss n f) ≤ diaTo xss n k
  | k + 1, h => by
    unfold diaTo
    rcases Nat.lt_succ_iff_lt_or_eq.1 h with h1 | rfl
    · have := dia_le (xss := xss) h1; omega
    · omega
end
end Go.Proofs.Ytmgoaabeopnopaa
