/- Replaced moves: facts outside the walks. -/
import Derived.Test.YtckmmgepoccopaaSew
import Derived.Test.YtckmmgepoccopaaL8
namespace Go.Proofs.Ytckmmgepoccopaa
open Go.RowKit

/-- The permutation that a word does. -/
def wpL (xss : List (List Int)) (n : Nat) (wd : List Int) : List Int := (List.range n).map fun (f : Nat) => runW xss (f : Int) wd
def wdsL (xss : List (List Int)) (n : Nat) (wss : List (List Int)) : List (List Int) := wss.map (wpL xss n)
section
variable {xss wss : List (List Int)} {wd : List Int} {n f k : Nat}
theorem wpL_len : (wpL xss n wd).length = n := by simp [wpL]
theorem wpL_succ (h : f < n) : (wpL xss n wd).take (f + 1) = (wpL xss n wd).take f ++ [runW xss (f : Int) wd] := by
  rw [List.take_add_one]
  simp [wpL, h]
theorem wdsL_len : (wdsL xss n wss).length = wss.length := by simp [wdsL]
theorem wdsL_succ (h : wss[k]? = some wd) : (wdsL xss n wss).take (k + 1) = (wdsL xss n wss).take k ++ [wpL xss n wd] := by
  rw [List.take_add_one]
  simp [wdsL, h]
theorem stepW_fz {xss : List (List Int)} {n : Nat} {p g : Int} (hsys : okSys n xss = true) (h0 : 0 ≤ g) (h1 : g < (xss.length : Int)) : ∃ xs, (xs.length : Int) = n ∧ okP xs = true ∧ stepW xss p g = fz xs p := by
  have hg : g.toNat < xss.length := by omega
  have h := (sys_parts hsys).2.2.2 xss[g.toNat] (List.getElem_mem hg)
  refine ⟨xss[g.toNat], h.1, h.2, ?_⟩
  simp [stepW, fz, List.getD, hg]
theorem wordOk_cons {x : Int} {l : List Int} (h : wordOk xss (x :: l) = true) : 0 ≤ x ∧ x < (xss.length : Int) ∧ wordOk xss l = true := by
  have h1 := of_decide_eq_true h
  have h2 := h1 x (by simp)
  exact ⟨h2.1, h2.2, decide_eq_true fun y hy => h1 y (by simp [hy])⟩
theorem runW_in (hsys : okSys n xss = true) : ∀ (l : List Int) (p : Int), wordOk xss l = true → 0 ≤ p → p < (n : Int) → 0 ≤ runW xss p l ∧ runW xss p l < (n : Int)
  | [], p, _, h0, h1 => ⟨h0, h1⟩
  | x :: l, p, hw, h0, h1 => by
    obtain ⟨a, b, c⟩ := wordOk_cons hw
    obtain ⟨xs, hl, ho, he⟩ := stepW_fz (p := p) hsys a b
    have h2 := fz_in (n := n) (by omega) ho h0 h1
    show 0 ≤ runW xss (stepW xss p x) l ∧ runW xss (stepW xss p x) l < (n : Int)
    rw [he]
    exact runW_in hsys l _ c h2.1 h2.2
theorem runW_inj (hsys : okSys n xss = true) : ∀ (l : List Int) (p q : Int), wordOk xss l = true → 0 ≤ p → p < (n : Int) → 0 ≤ q → q < (n : Int) → runW xss p l = runW xss q l → p = q
  | [], p, q, _, _, _, _, _, h => h
  | x :: l, p, q, hw, h0, h1, h2, h3, h => by
    obtain ⟨a, b, c⟩ := wordOk_cons hw
    obtain ⟨xs, hl, ho, he⟩ := stepW_fz (p := p) hsys a b
    obtain ⟨ys, hl', ho', he'⟩ := stepW_fz (p := q) hsys a b
    have hg : x.toNat < xss.length := by omega
    have e1 : stepW xss p x = fz xss[x.toNat] p := by simp [stepW, fz, List.getD, hg]
    have e2 : stepW xss q x = fz xss[x.toNat] q := by simp [stepW, fz, List.getD, hg]
    have hr := (sys_parts hsys).2.2.2 xss[x.toNat] (List.getElem_mem hg)
    have k1 := fz_in (n := n) (by omega) hr.2 h0 h1
    have k2 := fz_in (n := n) (by omega) hr.2 h2 h3
    have h' : runW xss (stepW xss p x) l = runW xss (stepW xss q x) l := h
    rw [e1, e2] at h'
    exact fz_inj (n := n) (by omega) hr.2 h0 h1 h2 h3 (runW_inj hsys l _ _ c k1.1 k1.2 k2.1 k2.2 h')
theorem wpL_ok (hsys : okSys n xss = true) (hw : wordOk xss wd = true) : okP (wpL xss n wd) = true := by
  have hn4 := (sys_parts hsys).2.1
  refine decide_eq_true ⟨by rw [wpL_len]; omega, fun x hx => ?_, ?_⟩
  · rw [wpL_len]
    obtain ⟨f, hf, rfl⟩ := List.mem_map.1 hx
    have := List.mem_range.1 hf
    exact runW_in hsys _ _ hw (by omega) (by omega)
  · refine List.pairwise_map.2 (List.Pairwise.imp_of_mem ?_ List.nodup_range)
    intro a b ha hb hab h
    have h1 := List.mem_range.1 ha
    have h2 := List.mem_range.1 hb
    have := runW_inj hsys _ _ _ hw (by omega) (by omega) (by omega) (by omega) h
    omega
theorem wdsL_sys (hsys : okSys n xss = true) (hl : wss.length ≤ 16) (hw : ∀ wd ∈ wss, wordOk xss wd = true) : okSys n (wdsL xss n wss) = true := by
  have h := sys_parts hsys
  refine decide_eq_true ⟨h.1, h.2.1, by rw [wdsL_len]; exact hl, fun xs hx => ?_⟩
  obtain ⟨wd, hwd, rfl⟩ := List.mem_map.1 hx
  exact ⟨by rw [wpL_len], wpL_ok hsys (hw wd hwd)⟩
end
end Go.Proofs.Ytckmmgepoccopaa
