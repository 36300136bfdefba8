/- What the law of duals asks holds. Facts outside the walks. -/
import Derived.Test.YtpmmpnhdimgkhaaGreatFpu
namespace Go.Proofs.YtpmmpnhdimgkhaaGreat
open Go.RowKit

section
variable {xss ys zs us vs : List (List Int)} {n l f q : Nat}
/-- The same moves in another order have the same orbits. -/
theorem orb_mems (hu : okSys n us = true) (hv : okSys n vs = true) (h : ∀ g, g ∈ us ↔ g ∈ vs) (f : Nat) (hf : f < n) (z : Int) : z ∈ orbL us n f ↔ z ∈ orbL vs n f := by
  obtain ⟨p1, m1, c1⟩ := orb_facts hu hf
  obtain ⟨p2, m2, c2⟩ := orb_facts hv hf
  exact ⟨fun hz => orb_sub (n := n) (fun g hg x hx => c2 g ((h g).1 hg) x hx) m2 z hz, fun hz => orb_sub (n := n) (fun g hg x hx => c1 g ((h g).2 hg) x hx) m1 z hz⟩
theorem orb_len (hu : okSys n us = true) (hv : okSys n vs = true) (h : ∀ g, g ∈ us ↔ g ∈ vs) (f : Nat) (hf : f < n) : (orbL us n f).length = (orbL vs n f).length := by
  obtain ⟨p1, _, _⟩ := orb_facts hu hf
  obtain ⟨p2, _, _⟩ := orb_facts hv hf
  have h1 := List.Nodup.length_le_of_subset p1.2 (fun z hz => (orb_mems hu hv h f hf z).1 hz)
  have h2 := List.Nodup.length_le_of_subset p2.2 (fun z hz => (orb_mems hu hv h f hf z).2 hz)
  omega
theorem pol_same (hu : okSys n us = true) (hv : okSys n vs = true) (h : ∀ g, g ∈ us ↔ g ∈ vs) : polL us n = polL vs n := by
  refine strict_eq polL_strict polL_strict fun x => ?_
  rw [polL_mem, polL_mem]
  exact ⟨fun ⟨p, hp, e⟩ => ⟨p, hp, by rw [← orb_len hu hv h p hp]; exact e⟩, fun ⟨p, hp, e⟩ => ⟨p, hp, by rw [orb_len hu hv h p hp]; exact e⟩⟩
theorem mem_erase_rev {i : Nat} (hi : i < xss.length) (g : List Int) : g ∈ xss.reverse.eraseIdx i ↔ g ∈ xss.eraseIdx (xss.length - 1 - i) := by
  rw [List.mem_eraseIdx_iff_getElem?, List.mem_eraseIdx_iff_getElem?]
  constructor
  · rintro ⟨j, hj, e⟩
    have hjl := (List.getElem?_eq_some_iff.1 e).1
    rw [List.length_reverse] at hjl
    rw [List.getElem?_reverse hjl] at e
    exact ⟨_, by omega, e⟩
  · rintro ⟨j, hj, e⟩
    have hjl := (List.getElem?_eq_some_iff.1 e).1
    refine ⟨xss.length - 1 - j, by omega, ?_⟩
    rw [List.getElem?_reverse (by omega), show xss.length - 1 - (xss.length - 1 - j) = j by omega]
    exact e
theorem mem_two_rev {i : Nat} (hi : i + 2 ≤ xss.length) : (xss.reverse.drop i).take 2 = ((xss.drop (xss.length - 2 - i)).take 2).reverse := by
  apply List.ext_getElem?
  intro j
  rw [List.getElem?_take]
  have hl : ((xss.drop (xss.length - 2 - i)).take 2).length = 2 := by simp; omega
  split
  · rename_i hj
    rw [List.getElem?_drop, List.getElem?_reverse (by omega), List.getElem?_reverse (by omega), hl, List.getElem?_take, if_pos (by omega), List.getElem?_drop]
    congr 1
    omega
  · rw [List.getElem?_eq_none (by rw [List.length_reverse, hl]; omega)]
theorem cnt_rev (h : IsMan xss) (hn : flN xss = n) : cntTo xss.reverse n xss.length = (cntTo xss n xss.length).reverse := by
  have hn0 : 0 < n := by have := h.f2; omega
  have s1 := h.sys
  have s2 := (isMan_rev h).sys
  rw [fl_rev h] at s2
  rw [hn] at s1 s2
  apply List.ext_getElem?
  intro j
  by_cases hj : j < xss.length
  · rw [cntTo_at hj, List.getElem?_reverse (by rw [cntTo_len]; exact hj), cntTo_len, cntTo_at (by omega), fac_cnt s2 hn0, fac_cnt s1 hn0, (orbs_eq (orb_mems (okSys_erase s2 j) (okSys_erase s1 (xss.length - 1 - j)) (mem_erase_rev hj)) n (Nat.le_refl _)).1]
  · rw [List.getElem?_eq_none (by rw [cntTo_len]; omega), List.getElem?_eq_none (by rw [List.length_reverse, cntTo_len]; omega)]
theorem ty_rev (h : IsMan xss) (hn : flN xss = n) : tyL xss.reverse n (xss.length - 1) = (tyL xss n (xss.length - 1)).reverse := by
  have s1 := h.sys
  have s2 := (isMan_rev h).sys
  rw [fl_rev h] at s2
  rw [hn] at s1 s2
  apply List.ext_getElem?
  intro j
  by_cases hj : j < xss.length - 1
  · rw [List.getElem?_reverse (by rw [tyL_len]; exact hj), tyL_len]
    unfold tyL
    rw [List.getElem?_map, List.getElem?_map, List.getElem?_range hj, List.getElem?_range (by omega)]
    simp only [Option.map_some]
    rw [pol_same (okSys_cut s2 j 2) (okSys_cut s1 (xss.length - 1 - 1 - j) 2) fun g => by rw [mem_two_rev (by omega), List.mem_reverse, show xss.length - 2 - j = xss.length - 1 - 1 - j by omega]]
  · rw [List.getElem?_eq_none (by rw [tyL_len]; omega), List.getElem?_eq_none (by rw [List.length_reverse, tyL_len]; omega)]
/-- A section by some of the moves of a section is one of the whole. -/
theorem sec_map (hsys : okSys n ys = true) (hf : f < n) (hl : (orbL ys n f).length = l) (hq : q < l) (hz : ∀ m ∈ zs, m ∈ ys) (hzs : okSys l (zs.map (secRow (orbL ys n f))) = true) :
    secL (zs.map (secRow (orbL ys n f))) l q = secL zs n (fz (orbL ys n f) q).toNat := by
  obtain ⟨hpa, hfm, hcl⟩ := orb_facts hsys hf
  obtain ⟨h1, h2⟩ := orb_map hsys hf hl hz hzs hq
  obtain ⟨opa, _, ocl⟩ := orb_facts hzs hq
  have hfq := fz_mem (ord := orbL ys n f) (k := (q : Int)) (by omega) (by omega)
  have hfi := hpa.1 _ hfq
  have he : (((fz (orbL ys n f) q).toNat : Nat) : Int) = fz (orbL ys n f) q := by omega
  unfold secL
  rw [List.map_map, he, ← h2]
  refine List.map_congr_left fun m hm => ?_
  obtain ⟨Q, hQ⟩ : ∃ Q, orbL (zs.map (secRow (orbL ys n f))) l q = Q := ⟨_, rfl⟩
  rw [hQ] at h1 opa ocl ⊢
  have e3 : ∀ (o : List Int) (r : List Int), secRow o r = o.map fun x => idxL o (fz r x) := fun _ _ => rfl
  rw [Function.comp, e3 Q, e3 (Q.map _), List.map_map]
  refine List.map_congr_left fun x hx => ?_
  rw [← hl] at h1
  have hx1 := h1 x hx
  have hrow := fz_row (m := m) hx1.1 hx1.2
  have hcm := hcl m (hz m hm) _ (fz_mem hx1.1 hx1.2)
  have hin := ocl _ (List.mem_map.2 ⟨m, hm, rfl⟩) x hx
  have hi3 := (fz_idx hcm).2.2
  rw [Function.comp, ← hi3, ← hrow]
  rw [idx_map hpa.2 h1 opa.2 hin]
theorem okSys_rev (h : okSys n ys = true) : okSys n ys.reverse = true := by
  have h1 := sys_parts h
  exact decide_eq_true ⟨h1.1, h1.2.1, by rw [List.length_reverse]; exact h1.2.2.1, fun xs hx => h1.2.2.2 xs (List.mem_reverse.1 hx)⟩
theorem sec_rev (hsys : okSys n ys = true) (hn : 0 < n) (hl : (orbL ys n ((0 : Nat) : Int)).length = l) : secL (secL ys n 0).reverse l 0 = secL ys.reverse n 0 := by
  have hl0 : 0 < l := by rw [← hl]; exact List.length_pos_of_mem (orb_facts hsys hn).2.1
  have e : (secL ys n 0).reverse = ys.reverse.map (secRow (orbL ys n ((0 : Nat) : Int))) := by
    unfold secL
    rw [List.map_reverse]
  have h0 : fz (orbL ys n ((0 : Nat) : Int)) ((0 : Nat) : Int) = 0 := by
    have := fz_at (p := 0) (orb_hd hsys hn)
    simpa using this
  rw [e, sec_map (q := 0) hsys hn hl hl0 (fun m hm => List.mem_reverse.1 hm) (by rw [← e]; exact okSys_rev (secL_sys hsys hn hl)), h0]
  rfl
/-- What the law of duals asks. -/
structure DualF (xss K F : List (List Int)) : Prop where
  du : duR xss = K ∧ duC xss = 0
  ag : duR K = F ∧ duC K = 0
  fo : ffR xss 0 = F ∧ ffC xss 0 = 0
  fc : fcR K = (fcR xss).reverse
  ty : tyR K = (tyR xss).reverse
  sd : sduB xss = decide (lfR xss = lfR K)
  mK : okMan K = true
  mF : okMan F = true
  lK : K.length = xss.length
  lF : F.length = xss.length
  sec : 2 ≤ xss.length → ∃ V T, (vfR xss 0 = V ∧ faC xss 0 = 0) ∧ (faR K 0 = T ∧ faC K 0 = 0) ∧ (duR V = T ∧ duC V = 0) ∧ okMan V = true ∧ okMan T = true ∧ V.length = xss.length - 1 ∧ T.length = xss.length - 1
set_option maxHeartbeats 1600000 in
theorem dualF (h : IsMan xss) : ∃ K F, DualF xss K F := by
  obtain ⟨n, hn⟩ : ∃ n, flN xss = n := ⟨_, rfl⟩
  have hn2 := h.f2
  rw [hn] at hn2
  have hn0 : 0 < n := by omega
  have mR := isMan_rev h
  have fR := (fl_rev h).trans hn
  have ho := okMan_true h
  have e1 : dualL xss n = frmL xss.reverse n 0 := by have := dual_eq h; rwa [hn] at this
  have same := frm_same (p := 0) mR (by omega)
  rw [fR] at same
  obtain ⟨oK, gK⟩ := frm_okM mR fR
  obtain ⟨oF, gF⟩ := frm_okM h hn
  have lK : (frmL xss.reverse n 0).length = xss.length := by rw [frmL_len, List.length_reverse]
  have hrv := h.rows
  rw [hn] at hrv
  have wd : wdsL xss.reverse n (dualW xss.reverse.length) = xss := by
    rw [wds_dual (xss := xss.reverse) fun xs hx => hrv xs (List.mem_reverse.1 hx), List.reverse_reverse]
  have e2 : dualL (frmL xss.reverse n 0) n = frmL xss n 0 := by
    unfold dualL
    rw [frmL_len]
    rw [rep_frm (W := dualW xss.reverse.length) mR fR (by rw [dualW_len, List.length_reverse]; have := h.r5; omega) (fun wd hw => (dualW_ok (N := xss.reverse.length) rfl wd hw).1) (by rw [wd]; exact h) (by rw [wd]; exact hn), wd]
  have hb : flagB n 0 = true := by simp [flagB]; omega
  have ofr := h.r5
  refine ⟨frmL xss.reverse n 0, frmL xss n 0, ⟨by rw [duR, if_pos ho, hn]; exact e1, by rw [duC, if_pos ho]⟩, ⟨by rw [duR, if_pos oK, gK]; exact e2, by rw [duC, if_pos oK]⟩, ?_, ?_, ?_, ?_, oK, oF, lK, frmL_len _ _ _, ?_⟩
  · unfold ffR ffC
    rw [if_pos ho, if_pos ho, hn, if_pos hb, if_pos hb]
    exact ⟨rfl, rfl⟩
  · rw [same.fc]
    unfold fcR
    rw [if_pos (okMan_true mR), if_pos ho, fR, hn, List.length_reverse]
    exact cnt_rev h hn
  · rw [same.ty]
    unfold tyR
    rw [if_pos (okMan_true mR), if_pos ho, fR, hn, List.length_reverse]
    exact ty_rev h hn
  · unfold sduB lfR
    rw [if_pos ho, if_pos oK, hn, e1, gK]
    unfold leaL
    rw [hn, gK]
    simp [ho]
  · intro h2
    have s1 := h.sys
    rw [hn] at s1
    obtain ⟨D, hD⟩ : ∃ D, (xss.drop 1).take (xss.length - 1 + 1 - 1) = D := ⟨_, rfl⟩
    have sD : okSys n D = true := by rw [← hD]; exact okSys_cut s1 _ _
    have lD : D.length = xss.length - 1 := by rw [← hD]; simp
    have mV := sec_man (f := 0) (i := 1) (q := xss.length - 1 + 1 - 1) h (by omega) (by omega) (by omega)
    rw [hn, hD] at mV
    obtain ⟨l, hl⟩ : ∃ l, (orbL D n ((0 : Nat) : Int)).length = l := ⟨_, rfl⟩
    have fV : flN (secL D n 0) = l := by rw [← hl]; exact secL_fl (by omega)
    have oV := okMan_true mV
    have fc1 : faC xss 0 = 0 := by
      have a := (scC_ok (p := 0) (a := 0) (b := 0) h (by omega) (by omega) (by omega)).1
      simp only [Int.natCast_zero] at a
      unfold faC
      rw [a, if_pos rfl, if_neg (by omega)]
    have hK := okMan_iff.1 oK
    have fc2 : faC (frmL xss.reverse n 0) 0 = 0 := by
      have a := (scC_ok (p := 0) (a := 0) (b := 0) hK (by omega) (by omega) (by omega)).1
      simp only [Int.natCast_zero] at a
      unfold faC
      rw [a, if_pos rfl, if_neg (by omega)]
    have sR := mR.sys
    rw [fR] at sR
    have aR := mR.all (q := 0) (by omega)
    rw [fR] at aR
    have h00 : fz (orbL xss.reverse n ((0 : Nat) : Int)) ((0 : Nat) : Int) = 0 := by
      have := fz_at (p := 0) (orb_hd sR hn0)
      simpa using this
    have hT : faR (frmL xss.reverse n 0) 0 = secL D.reverse n 0 := by
      unfold faR
      rw [if_pos fc2]
      unfold secAt
      rw [gK, lK, frm_eq_sec sR hn0 aR]
      rw [show (Int.toNat 0) = 0 from rfl, secL_secL (q := 0) sR hn0 aR hn0, h00]
      have : (xss.reverse.drop (0 : Nat)).take (xss.length - 2 + 1 - 0) = D.reverse := by
        rw [← hD, List.drop_zero, List.take_reverse, List.take_of_length_le (by simp)]
        congr 2
        omega
      simp only [Int.toNat_zero]
      rw [this]
    have mT := sec_man (f := 0) (i := 0) (q := (frmL xss.reverse n 0).length - 2 + 1 - 0) hK (by omega) (by omega) (by omega)
    refine ⟨secL D n 0, secL D.reverse n 0, ⟨?_, fc1⟩, ⟨hT, fc2⟩, ⟨?_, by rw [duC, if_pos oV]⟩, oV, ?_, ?_, ?_⟩
    · unfold vfR
      rw [if_pos fc1]
      unfold secAt
      rw [hn, hD]
      rfl
    · rw [duR, if_pos oV, fV]
      have e := dual_eq mV
      rw [fV] at e
      have mVr := isMan_rev mV
      have fVr := (fl_rev mV).trans fV
      have sVr := mVr.sys
      rw [fVr] at sVr
      have aVr := mVr.all (q := 0) (by rw [fVr, ← hl]; exact List.length_pos_of_mem (orb_facts sD hn0).2.1)
      rw [fVr] at aVr
      rw [e, frm_eq_sec sVr (by rw [← hl]; exact List.length_pos_of_mem (orb_facts sD hn0).2.1) aVr]
      exact sec_rev sD hn0 hl
    · rw [← hT]
      unfold faR
      rw [if_pos fc2]
      exact okMan_true mT
    · simp [secL, lD]
    · simp [secL, lD]
end
end Go.Proofs.YtpmmpnhdimgkhaaGreat
