/- Petrie duals, opposites and duals of a maniplex of rank 3: facts outside the walks. -/
import Derived.Test.YtmikoihpmhfafaaDum
import Derived.Test.YtmikoihpmhfafaaSfa
import Derived.Test.YtmikoihpmhfafaaPel
import Derived.Test.YtmikoihpmhfafaaHo
namespace Go.Proofs.Ytmikoihpmhfafaa
open Go.RowKit

section
variable {xss ys zs W : List (List Int)} {n : Nat} {p q r s : List Int}
/-- What a move of a maniplex does. -/
theorem mv_facts (h : IsMan xss) (hg : p ∈ xss) {x : Int} (h0 : 0 ≤ x) (h1 : x < (flN xss : Int)) : (0 ≤ fz p x ∧ fz p x < (flN xss : Int)) ∧ fz p x ≠ x ∧ fz p (fz p x) = x := by
  obtain ⟨j, rfl⟩ := Int.eq_ofNat_of_zero_le h0
  have hr := h.row p hg
  have := (free_iff hr.1 hr.2.1).1 hr.2.2 j (by omega)
  exact ⟨sys_img h.sys hg h0 h1, this.1, this.2⟩
theorem sq_facts (h : IsMan [p, q, r]) {x : Int} (h0 : 0 ≤ x) (h1 : x < (flN [p, q, r] : Int)) : fz p x ≠ fz r x ∧ fz p (fz r x) = fz r (fz p x) := by
  obtain ⟨j, rfl⟩ := Int.eq_ofNat_of_zero_le h0
  exact h.sq 0 2 p r (by decide) rfl rfl j (by omega)
theorem orb_whole (hs : okSys n ys = true) (h : IsMan xss) (hn : flN xss = n) (hcl : ∀ S : List Int, Passed n S → Closed ys S → Closed xss S) : (orbL ys n ((0 : Nat) : Int)).length = n := by
  have hn0 : 0 < n := by have := h.f2; omega
  have hsx := h.sys
  rw [hn] at hsx
  obtain ⟨p1, m1, c1⟩ := orb_facts hs hn0
  obtain ⟨p0, m0, c0⟩ := orb_facts hsx hn0
  have hsub := orb_sub (q := 0) (n := n) (hcl _ p1 c1) m1
  have hle := passed_len p1
  have hge : (orbL xss n ((0 : Nat) : Int)).length ≤ (orbL ys n ((0 : Nat) : Int)).length := List.Nodup.length_le_of_subset p0.2 hsub
  have := h.orb
  rw [hn] at this
  simp only [Int.natCast_zero] at hge hle ⊢
  omega
/-- The moves of the Petrie dual and of the opposite. -/
theorem man3 (h : IsMan [p, q, r]) (hn : flN [p, q, r] = n) (hl : s.length = n) (hs : ∀ x : Int, 0 ≤ x → x < (n : Int) → fz s x = fz r (fz p x)) (hok : okP s = true) : IsMan [s, q, r] ∧ IsMan [p, q, s] := by
  have hp : p ∈ [p, q, r] := by simp
  have hq : q ∈ [p, q, r] := by simp
  have hr : r ∈ [p, q, r] := by simp
  have P := fun {x : Int} (h0 : 0 ≤ x) (h1 : x < (n : Int)) => mv_facts (p := p) h hp h0 (by rw [hn]; exact h1)
  have R := fun {x : Int} (h0 : 0 ≤ x) (h1 : x < (n : Int)) => mv_facts (p := r) h hr h0 (by rw [hn]; exact h1)
  have Q := fun {x : Int} (h0 : 0 ≤ x) (h1 : x < (n : Int)) => sq_facts h h0 (by rw [hn]; exact h1)
  rw [hn] at P R
  have hrow := h.rows
  rw [hn] at hrow
  have hf2 := h.f2
  have hf4 := h.f4
  rw [hn] at hf2 hf4
  have hfree : freeP s = true := by
    refine (free_iff hl hok).2 fun k hk => ?_
    have k0 : (0 : Int) ≤ (k : Int) := by omega
    have k1 : (k : Int) < (n : Int) := by omega
    have a := P k0 k1
    have b := R a.1.1 a.1.2
    refine ⟨fun e => ?_, ?_⟩
    · rw [hs _ k0 k1] at e
      have c := (Q k0 k1).1
      have d := b.2.2
      rw [e] at d
      exact c d.symm
    · rw [hs _ k0 k1, hs _ b.1.1 b.1.2, (Q a.1.1 a.1.2).2, a.2.2, (R k0 k1).2.2]
  have e1 : ∀ {x : Int}, 0 ≤ x → x < (n : Int) → fz r (fz s x) = fz p x := fun h0 h1 => by rw [hs _ h0 h1]; exact (R (P h0 h1).1.1 (P h0 h1).1.2).2.2
  have e2 : ∀ {x : Int}, 0 ≤ x → x < (n : Int) → fz s (fz p x) = fz r x := fun h0 h1 => by rw [hs _ (P h0 h1).1.1 (P h0 h1).1.2, (P h0 h1).2.2]
  have e3 : ∀ {x : Int}, 0 ≤ x → x < (n : Int) → fz s (fz r x) = fz p x := fun h0 h1 => by rw [hs _ (R h0 h1).1.1 (R h0 h1).1.2, (Q h0 h1).2, (R (P h0 h1).1.1 (P h0 h1).1.2).2.2]
  have e4 : ∀ {x : Int}, 0 ≤ x → x < (n : Int) → fz p (fz s x) = fz r x := fun h0 h1 => by rw [hs _ h0 h1, (Q (P h0 h1).1.1 (P h0 h1).1.2).2, (P h0 h1).2.2]
  have sys1 : okSys n [s, q, r] = true := decide_eq_true ⟨by omega, by omega, by simp, fun xs hx => by
    simp at hx
    rcases hx with rfl | rfl | rfl
    · exact ⟨by rw [hl], hok⟩
    · exact ⟨by rw [hrow _ hq], (h.row _ hq).2.1⟩
    · exact ⟨by rw [hrow _ hr], (h.row _ hr).2.1⟩⟩
  have sys2 : okSys n [p, q, s] = true := decide_eq_true ⟨by omega, by omega, by simp, fun xs hx => by
    simp at hx
    rcases hx with rfl | rfl | rfl
    · exact ⟨by rw [hrow _ hp], (h.row _ hp).2.1⟩
    · exact ⟨by rw [hrow _ hq], (h.row _ hq).2.1⟩
    · exact ⟨by rw [hl], hok⟩⟩
  have f1 : flN [s, q, r] = n := hl
  have f2 : flN [p, q, s] = n := hrow _ hp
  constructor
  · refine ⟨by simp, by simp, by rw [f1]; exact hf2, by rw [f1]; exact hf4, fun xs hx => ?_, fun i k a b hik ha hb => ?_, ?_⟩
    · rw [f1]
      simp at hx
      rcases hx with rfl | rfl | rfl
      · exact ⟨hl, hok, hfree⟩
      · exact ⟨hrow _ hq, (h.row _ hq).2⟩
      · exact ⟨hrow _ hr, (h.row _ hr).2⟩
    · rw [f1]
      have hk3 := (List.getElem?_eq_some_iff.1 hb).1
      simp at hk3
      obtain rfl : i = 0 := by omega
      obtain rfl : k = 2 := by omega
      simp at ha hb
      subst ha
      subst hb
      intro f hf
      have k0 : (0 : Int) ≤ (f : Int) := by omega
      have k1 : (f : Int) < (n : Int) := by omega
      refine ⟨fun e => ?_, by rw [e3 k0 k1, e1 k0 k1]⟩
      have c := e1 k0 k1
      rw [e, (R k0 k1).2.2] at c
      exact (P k0 k1).2.1 c.symm
    · rw [f1]
      refine orb_whole sys1 h hn fun S hS hc g hg x hx => ?_
      have hxr := hS.1 x hx
      simp at hg
      rcases hg with rfl | rfl | rfl
      · have c := hc r (by simp) _ (hc s (by simp) x hx)
        rwa [e1 hxr.1 hxr.2] at c
      · exact hc g (by simp) x hx
      · exact hc g (by simp) x hx
  · refine ⟨by simp, by simp, by rw [f2]; exact hf2, by rw [f2]; exact hf4, fun xs hx => ?_, fun i k a b hik ha hb => ?_, ?_⟩
    · rw [f2]
      simp at hx
      rcases hx with rfl | rfl | rfl
      · exact ⟨hrow _ hp, (h.row _ hp).2⟩
      · exact ⟨hrow _ hq, (h.row _ hq).2⟩
      · exact ⟨hl, hok, hfree⟩
    · rw [f2]
      have hk3 := (List.getElem?_eq_some_iff.1 hb).1
      simp at hk3
      obtain rfl : i = 0 := by omega
      obtain rfl : k = 2 := by omega
      simp at ha hb
      subst ha
      subst hb
      intro f hf
      have k0 : (0 : Int) ≤ (f : Int) := by omega
      have k1 : (f : Int) < (n : Int) := by omega
      refine ⟨fun e => ?_, by rw [e4 k0 k1, e2 k0 k1]⟩
      rw [hs _ k0 k1] at e
      exact (R (P k0 k1).1.1 (P k0 k1).1.2).2.1 e.symm
    · rw [f2]
      refine orb_whole sys2 h hn fun S hS hc g hg x hx => ?_
      have hxr := hS.1 x hx
      simp at hg
      rcases hg with rfl | rfl | rfl
      · exact hc g (by simp) x hx
      · exact hc g (by simp) x hx
      · have c := hc s (by simp) _ (hc p (by simp) x hx)
        rwa [e2 hxr.1 hxr.2] at c

/-- Renumbering goes through words. -/
theorem run_iso {φ : Nat → Nat} (h : IsoS n ys zs φ) (hs : okSys n ys = true) : ∀ (wd : List Int), wordOk ys wd = true → ∀ k : Nat, k < n → runW zs ((φ k : Nat) : Int) wd = ((φ (runW ys (k : Int) wd).toNat : Nat) : Int)
  | [], _, k, _ => by simp [runW]
  | g :: l, hw, k, hk => by
    obtain ⟨g0, g1, hl⟩ := wordOk_cons hw
    obtain ⟨g, rfl⟩ := Int.eq_ofNat_of_zero_le g0
    have hgy : g < ys.length := by omega
    have hgz : g < zs.length := by rw [← h.len]; exact hgy
    have e1 : ∀ x : Int, stepW ys x (g : Int) = fz ys[g] x := fun x => by simp [stepW, fz, List.getD, hgy]
    have e2 : ∀ x : Int, stepW zs x (g : Int) = fz zs[g] x := fun x => by simp [stepW, fz, List.getD, hgz]
    have hm := h.mv g _ _ (List.getElem?_eq_getElem hgy) (List.getElem?_eq_getElem hgz) k hk
    have hr := sys_img hs (List.getElem_mem hgy) (x := (k : Int)) (by omega) (by omega)
    show runW zs (stepW zs _ _) l = ((φ (runW ys (stepW ys _ _) l).toNat : Nat) : Int)
    rw [e1, e2, ← hm]
    obtain ⟨j, hj⟩ := Int.eq_ofNat_of_zero_le hr.1
    rw [hj, Int.toNat_natCast]
    exact run_iso h hs l hl j (by omega)
theorem wds_iso {φ : Nat → Nat} (h : IsoS n ys zs φ) (hs : okSys n ys = true) (hw : ∀ wd ∈ W, wordOk ys wd = true) : IsoS n (wdsL ys n W) (wdsL zs n W) φ := by
  refine ⟨by rw [wdsL_len, wdsL_len], h.im, h.inj, fun i a b ha hb k hk => ?_⟩
  simp only [wdsL, List.getElem?_map, Option.map_eq_some_iff] at ha hb
  obtain ⟨wd, hwd, rfl⟩ := ha
  obtain ⟨wd', hwd', rfl⟩ := hb
  rw [hwd] at hwd'
  injection hwd' with e
  subst e
  have hm := List.mem_of_getElem? hwd
  rw [fz_wp (by omega) (by omega), fz_wp (by omega) (by have := h.im k hk; omega)]
  exact (run_iso h hs wd (hw wd hm) k hk).symm
/-- Replacing moves in the form of a maniplex. -/
theorem rep_frm (h : IsMan ys) (hn : flN ys = n) (hl : W.length ≤ 16) (hw : ∀ wd ∈ W, wordOk ys wd = true) (hW : IsMan (wdsL ys n W)) (hf : flN (wdsL ys n W) = n) : repL (frmL ys n 0) n W = frmL (wdsL ys n W) n 0 := by
  have hn0 : 0 < n := by have := h.f2; omega
  have hs := h.sys
  rw [hn] at hs
  have ha := h.all (q := 0) (by omega)
  rw [hn] at ha
  have hok := okP_inv (okP_orb hs hn0 ha)
  have hi : IsoS n ys (frmL ys n 0) (fun k => (fz (invL (orbL ys n ((0 : Nat) : Int))) (k : Int)).toNat) := ren_iso hs (inv_orb_len ha) hok
  have hz : IsMan (frmL ys n 0) := by
    have := (frm_same (p := 0) h (by omega)).man
    rwa [hn] at this
  have hzf : flN (frmL ys n 0) = n := by
    have := (frm_same (p := 0) h (by omega)).fl
    rw [hn] at this
    exact this
  have hzs := hz.sys
  rw [hzf] at hzs
  have hi2 := wds_iso (W := W) hi hs hw
  have hwz : ∀ wd ∈ W, wordOk (frmL ys n 0) wd = true := fun wd hm => by
    have := hw wd hm
    unfold wordOk at this ⊢
    rwa [frmL_len]
  have s1 := wdsL_sys (wss := W) hs hl hw
  have s2 := wdsL_sys (wss := W) hzs hl hwz
  have hall : ∀ q : Nat, q < n → (orbL (wdsL ys n W) n q).length = n := fun q hq => by
    have := hW.all (q := q) (by rw [hf]; exact hq)
    rwa [hf] at this
  have hWl : 0 < W.length := by have := hW.r1; rwa [wdsL_len] at this
  have hfz : flN (wdsL (frmL ys n 0) n W) = n := by
    have h0 : 0 < (wdsL (frmL ys n 0) n W).length := by rw [wdsL_len]; exact hWl
    rw [fl_of (List.getElem?_eq_getElem h0)]
    obtain ⟨wd, _, e⟩ := List.mem_map.1 (List.getElem_mem h0)
    rw [← e, wpL_len]
  have hm2 := iso_man hi2 hW hf s2 hfz
  have hall2 := hm2.all (q := 0) (by rw [hfz]; exact hn0)
  rw [hfz] at hall2
  have hhd := orb_hd hs hn0
  have h00 : fz (orbL ys n ((0 : Nat) : Int)) 0 = 0 := by
    have := fz_at (p := 0) hhd
    simpa using this
  have hφ0 : (fz (invL (orbL ys n ((0 : Nat) : Int))) ((0 : Nat) : Int)).toNat = 0 := by
    have := fz_inv (n := n) (xs := orbL ys n ((0 : Nat) : Int)) ha (okP_orb hs hn0 ha) (x := 0) (by omega) (by omega)
    rw [h00] at this
    show (fz (invL (orbL ys n ((0 : Nat) : Int))) 0).toNat = 0
    rw [this]
    rfl
  have := iso_frm (p := 0) hi2 s1 s2 hall hn0
  rw [hφ0] at this
  rw [this, frm_eq_sec s2 hn0 hall2, repL]

/-- Orbits that are the same sets are as many. -/
theorem orbs_eq {us vs : List (List Int)} (h : ∀ f : Nat, f < n → ∀ z, z ∈ orbL us n f ↔ z ∈ orbL vs n f) : ∀ k, k ≤ n → (orbsTo us n k).length = (orbsTo vs n k).length ∧ ∀ z, z ∈ (orbsTo us n k).flatten ↔ z ∈ (orbsTo vs n k).flatten
  | 0, _ => ⟨rfl, fun z => Iff.rfl⟩
  | k + 1, hk => by
    obtain ⟨i1, i2⟩ := orbs_eq h k (by omega)
    unfold orbsTo
    by_cases hm : (k : Int) ∈ (orbsTo us n k).flatten
    · rw [if_pos hm, if_pos ((i2 _).1 hm)]
      exact ⟨i1, i2⟩
    · rw [if_neg hm, if_neg (fun h2 => hm ((i2 _).2 h2))]
      refine ⟨by simp [i1], fun z => ?_⟩
      rw [List.flatten_append, List.flatten_append, List.mem_append, List.mem_append, i2 z]
      simp only [List.flatten_cons, List.flatten_nil, List.append_nil]
      rw [h k (by omega) z]
/-- What the law of Petrie duals asks. -/
structure PetF (xss : List (List Int)) (K Pp F D T : List (List Int)) : Prop where
  ko : op5R xss = K ∧ op5C xss = 0
  po : peR xss = Pp ∧ peC xss = 0
  ag : peR Pp = F ∧ peC Pp = 0
  fo : ffR xss 0 = F ∧ ffC xss 0 = 0
  du : duR xss = D ∧ duC xss = 0
  tu : peR D = T ∧ peC D = 0
  ba : duR T = K ∧ duC T = 0
  tw : op5R K = F ∧ op5C K = 0
  fc : ∃ a b c d : Int, fcR xss = [a, b, c] ∧ fcR Pp = [a, b, d]
  sp : spB5 xss = decide (lfR xss = lfR Pp)
  mK : okMan K = true
  mP : okMan Pp = true
  mF : okMan F = true
  mD : okMan D = true
  mT : okMan T = true
  lK : K.length = 3
  lP : Pp.length = 3
  lF : F.length = 3
  lD : D.length = 3
  lT : T.length = 3
theorem wp_two {a b : Nat} {u v : List Int} (ha : ys[a]? = some u) (hb : ys[b]? = some v) {x : Int} (h0 : 0 ≤ x) (h1 : x < (n : Int)) : fz (wpL ys n [(a : Int), (b : Int)]) x = fz v (fz u x) := by
  rw [fz_wp h0 h1]
  simp [runW, stepW, fz, List.getD, ha, hb]
theorem word_ok3 {wd : List Int} (hl : ys.length = 3) (h : ∀ x ∈ wd, 0 ≤ x ∧ x < 3) : wordOk ys wd = true := decide_eq_true fun x hx => by have := h x hx; omega
theorem petW3_ok (hl : ys.length = 3) : ∀ wd ∈ petW 3, wordOk ys wd = true := fun wd h => (petW_ok hl (by decide) wd h).1
theorem op5W3_ok (hl : ys.length = 3) : ∀ wd ∈ op5W, wordOk ys wd = true := fun wd hwd => by
  unfold op5W at hwd
  simp only [List.mem_cons, List.not_mem_nil, or_false] at hwd
  rcases hwd with rfl | rfl | rfl <;> exact word_ok3 hl (fun x hx => by simp at hx; omega)
theorem frm_okM (h : IsMan ys) (hn : flN ys = n) : okMan (frmL ys n 0) = true ∧ flN (frmL ys n 0) = n := by
  have h0 : 0 < flN ys := by have := h.f2; omega
  have := frm_same (p := 0) h h0
  rw [hn] at this
  exact ⟨okMan_true this.man, this.fl.trans hn⟩
/-- One operation on the form of a maniplex. -/
theorem pet_on (h : IsMan [p, q, r]) (hn : flN [p, q, r] = n) : ∃ s, (∀ x : Int, 0 ≤ x → x < (n : Int) → fz s x = fz r (fz p x)) ∧ s.length = n ∧ okP s = true ∧ wdsL [p, q, r] n (petW 3) = [s, q, r] ∧ wdsL [p, q, r] n op5W = [p, q, s] ∧ wdsL [p, q, r] n (dualW 3) = [r, q, p] := by
  have hrow := h.rows
  rw [hn] at hrow
  have hs := h.sys
  rw [hn] at hs
  refine ⟨wpL [p, q, r] n [0, 2], fun x h0 h1 => wp_two (a := 0) (b := 2) rfl rfl h0 h1, wpL_len, wpL_ok hs (word_ok3 rfl (fun x hx => by simp at hx; omega)), ?_, ?_, ?_⟩
  · have a := wp_single (xss := [p, q, r]) (n := n) (g := 1) rfl (hrow q (by simp))
    have b := wp_single (xss := [p, q, r]) (n := n) (g := 2) rfl (hrow r (by simp))
    simp only [Int.natCast_one] at a
    show [wpL [p, q, r] n [0, 2], wpL [p, q, r] n [1], wpL [p, q, r] n [2]] = _
    rw [a]
    rw [show ((2 : Nat) : Int) = 2 from rfl] at b
    rw [b]
  · have a := wp_single (xss := [p, q, r]) (n := n) (g := 0) rfl (hrow p (by simp))
    have b := wp_single (xss := [p, q, r]) (n := n) (g := 1) rfl (hrow q (by simp))
    simp only [Int.natCast_one, Int.natCast_zero] at a b
    show [wpL [p, q, r] n [0], wpL [p, q, r] n [1], wpL [p, q, r] n [0, 2]] = _
    rw [a, b]
  · exact (wds_dual (xss := [p, q, r]) hrow).trans rfl
end
end Go.Proofs.Ytmikoihpmhfafaa
