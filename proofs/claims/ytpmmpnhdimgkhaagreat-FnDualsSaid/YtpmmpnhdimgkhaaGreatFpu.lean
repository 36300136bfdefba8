/- What the law of Petrie duals asks holds. Facts outside the walks. -/
import Derived.Test.YtpmmpnhdimgkhaaGreatFpt
namespace Go.Proofs.YtpmmpnhdimgkhaaGreat
open Go.RowKit

section
variable {xss ys zs W Z : List (List Int)} {n : Nat} {p q r s : List Int}
theorem rep_self (hW : IsMan (wdsL ys n W)) (hf : flN (wdsL ys n W) = n) : repL ys n W = frmL (wdsL ys n W) n 0 := by
  have hn0 : 0 < n := by have := hW.f2; omega
  have hs := hW.sys
  have ha := hW.all (q := 0) (by omega)
  rw [hf] at hs ha
  rw [repL, frm_eq_sec hs hn0 ha]
theorem op5_eval (hm : okMan ys = true) (hn : flN ys = n) (hl : ys.length = 3) (he : repL ys n op5W = Z) (hz : okMan Z = true) : op5R ys = Z ∧ op5C ys = 0 := by
  simp [op5R, op5C, thR, thC, hm, hn, hl, he, hz]
theorem pe_eval (hm : okMan ys = true) (hn : flN ys = n) (hl : ys.length = 3) (he : repL ys n (petW 3) = Z) (hz : okMan Z = true) : peR ys = Z ∧ peC ys = 0 := by
  simp [peR, peC, hm, hn, hl, he, hz]
theorem du_eval (hm : okMan ys = true) (hn : flN ys = n) (hl : ys.length = 3) (he : repL ys n (dualW 3) = Z) : duR ys = Z ∧ duC ys = 0 := by
  simp [duR, duC, dualL, hm, hn, hl, he]
theorem orb_pair (hm : IsMan [p, q, r]) (hn : flN [p, q, r] = n) (hl : s.length = n) (hs : ∀ x : Int, 0 ≤ x → x < (n : Int) → fz s x = fz r (fz p x)) (mP : IsMan [s, q, r]) : grtL (facL [s, q, r] n 1) = grtL (facL [p, q, r] n 1) := by
  have hn0 : 0 < n := by have := hm.f2; omega
  have s1 := hm.sys
  have s2 := mP.sys
  rw [show flN [s, q, r] = n from hl] at s2
  rw [hn] at s1
  rw [fac_cnt s1 hn0, fac_cnt s2 hn0]
  have t1 := okSys_erase s1 1
  have t2 := okSys_erase s2 1
  have P := fun {x : Int} (h0 : 0 ≤ x) (h1 : x < (n : Int)) => mv_facts (p := p) hm (by simp) h0 (by rw [hn]; exact h1)
  have R := fun {x : Int} (h0 : 0 ≤ x) (h1 : x < (n : Int)) => mv_facts (p := r) hm (by simp) h0 (by rw [hn]; exact h1)
  rw [hn] at P R
  have key : ∀ f : Nat, f < n → ∀ z, z ∈ orbL ([s, q, r].eraseIdx 1) n f ↔ z ∈ orbL ([p, q, r].eraseIdx 1) n f := by
    intro f hf z
    obtain ⟨p1, m1, c1⟩ := orb_facts t1 hf
    obtain ⟨p2, m2, c2⟩ := orb_facts t2 hf
    refine ⟨fun h => orb_sub (n := n) (fun g hg x hx => ?_) m1 z h, fun h => orb_sub (n := n) (fun g hg x hx => ?_) m2 z h⟩
    · have hxr := p1.1 x hx
      simp at hg
      rcases hg with rfl | rfl
      · rw [hs _ hxr.1 hxr.2]
        exact c1 r (by simp) _ (c1 p (by simp) x hx)
      · exact c1 g (by simp) x hx
    · have hxr := p2.1 x hx
      simp at hg
      rcases hg with rfl | rfl
      · have c := c2 r (by simp) _ (c2 s (by simp) x hx)
        rw [hs _ hxr.1 hxr.2, (R (P hxr.1 hxr.2).1.1 (P hxr.1 hxr.2).1.2).2.2] at c
        exact c
      · exact c2 g (by simp) x hx
  rw [(orbs_eq key n (Nat.le_refl _)).1]
set_option maxHeartbeats 1600000 in
theorem petF (h : IsMan xss) (hl : xss.length = 3) : ∃ K Pp F D T, PetF xss K Pp F D T := by
  obtain ⟨p, q, r, rfl⟩ : ∃ p q r, xss = [p, q, r] := by
    match xss, hl with
    | [a, b, c], _ => exact ⟨a, b, c, rfl⟩
  obtain ⟨n, hn⟩ : ∃ n, flN [p, q, r] = n := ⟨_, rfl⟩
  have hn2 := h.f2
  rw [hn] at hn2
  have hrow := h.rows
  rw [hn] at hrow
  have lp := hrow p (by simp)
  have lr := hrow r (by simp)
  have P := fun {x : Int} (h0 : 0 ≤ x) (h1 : x < (n : Int)) => mv_facts (p := p) h (by simp) h0 (by rw [hn]; exact h1)
  have R := fun {x : Int} (h0 : 0 ≤ x) (h1 : x < (n : Int)) => mv_facts (p := r) h (by simp) h0 (by rw [hn]; exact h1)
  have Q := fun {x : Int} (h0 : 0 ≤ x) (h1 : x < (n : Int)) => sq_facts h h0 (by rw [hn]; exact h1)
  rw [hn] at P R
  obtain ⟨s, hs, sl, so, wp, wo, wd⟩ := pet_on h hn
  obtain ⟨mP, mO⟩ := man3 h hn sl hs so
  have fP : flN [s, q, r] = n := sl
  have fO : flN [p, q, s] = n := lp
  obtain ⟨s1, hs1, sl1, so1, wp1, _, _⟩ := pet_on mP fP
  have e1 : s1 = p := ext_fz sl1 lp fun k hk => by
    have k0 : (0 : Int) ≤ (k : Int) := by omega
    have k1 : (k : Int) < (n : Int) := by omega
    rw [hs1 _ k0 k1, hs _ k0 k1, (R (P k0 k1).1.1 (P k0 k1).1.2).2.2]
  subst e1
  obtain ⟨s2, hs2, sl2, so2, _, wo2, _⟩ := pet_on mO fO
  have e2 : s2 = r := ext_fz sl2 lr fun k hk => by
    have k0 : (0 : Int) ≤ (k : Int) := by omega
    have k1 : (k : Int) < (n : Int) := by omega
    rw [hs2 _ k0 k1, hs _ (P k0 k1).1.1 (P k0 k1).1.2, (P k0 k1).2.2]
  subst e2
  have mR : IsMan [s2, q, s1] := by simpa using isMan_rev h
  have fR : flN [s2, q, s1] = n := lr
  obtain ⟨s3, hs3, sl3, so3, wp3, _, _⟩ := pet_on mR fR
  have e3 : s3 = s := ext_fz sl3 sl fun k hk => by
    have k0 : (0 : Int) ≤ (k : Int) := by omega
    have k1 : (k : Int) < (n : Int) := by omega
    rw [hs3 _ k0 k1, hs _ k0 k1, (Q k0 k1).2]
  subst e3
  have mT := (man3 mR fR sl3 hs3 so3).1
  have fT : flN [s3, q, s1] = n := sl3
  obtain ⟨_, _, _, _, _, _, wd4⟩ := pet_on mT fT
  obtain ⟨oK, gK⟩ := frm_okM mO fO
  obtain ⟨oP, gP⟩ := frm_okM mP fP
  obtain ⟨oF, gF⟩ := frm_okM h hn
  obtain ⟨oD, gD⟩ := frm_okM mR fR
  obtain ⟨oT, gT⟩ := frm_okM mT fT
  have r1 : repL [s1, q, s2] n op5W = frmL [s1, q, s3] n 0 := by rw [rep_self (by rw [wo]; exact mO) (by rw [wo]; exact fO), wo]
  have r2 : repL [s1, q, s2] n (petW 3) = frmL [s3, q, s2] n 0 := by rw [rep_self (by rw [wp]; exact mP) (by rw [wp]; exact fP), wp]
  have r3 : repL (frmL [s3, q, s2] n 0) n (petW 3) = frmL [s1, q, s2] n 0 := by rw [rep_frm mP fP (by simp [petW, sglW]) (petW3_ok rfl) (by rw [wp1]; exact h) (by rw [wp1]; exact hn), wp1]
  have r4 : repL [s1, q, s2] n (dualW 3) = frmL [s2, q, s1] n 0 := by rw [rep_self (by rw [wd]; exact mR) (by rw [wd]; exact fR), wd]
  have r5 : repL (frmL [s2, q, s1] n 0) n (petW 3) = frmL [s3, q, s1] n 0 := by rw [rep_frm mR fR (by simp [petW, sglW]) (petW3_ok rfl) (by rw [wp3]; exact mT) (by rw [wp3]; exact fT), wp3]
  have r6 : repL (frmL [s3, q, s1] n 0) n (dualW 3) = frmL [s1, q, s3] n 0 := by rw [rep_frm (W := dualW 3) mT fT (by simp [dualW]) (fun wd hw => (dualW_ok (N := 3) rfl wd hw).1) (by rw [wd4]; exact mO) (by rw [wd4]; exact fO), wd4]
  have r7 : repL (frmL [s1, q, s3] n 0) n op5W = frmL [s1, q, s2] n 0 := by rw [rep_frm mO fO (by simp [op5W]) (op5W3_ok rfl) (by rw [wo2]; exact h) (by rw [wo2]; exact hn), wo2]
  have lF : ∀ a b c : List Int, (frmL [a, b, c] n 0).length = 3 := fun a b c => frmL_len _ _ _
  have ho := okMan_true h
  have hfc : fcR (frmL [s3, q, s2] n 0) = fcR [s3, q, s2] := by
    have := (frm_same (p := 0) mP (by omega)).fc
    rwa [fP] at this
  have hpe := pe_eval ho hn rfl r2 oP
  have h1 := op5_eval ho hn rfl r1 oK
  have h2 := pe_eval oP gP (lF _ _ _) r3 oF
  have h3 := du_eval ho hn rfl r4
  have h4 := pe_eval oD gD (lF _ _ _) r5 oT
  have h5 := du_eval oT gT (lF _ _ _) r6
  have h6 := op5_eval oK gK (lF _ _ _) r7 oF
  have hb : flagB n 0 = true := by simp [flagB]; omega
  have h7 : ffR [s1, q, s2] 0 = frmL [s1, q, s2] n 0 ∧ ffC [s1, q, s2] 0 = 0 := by
    unfold ffR ffC
    rw [if_pos ho, if_pos ho, hn, if_pos hb, if_pos hb]
    exact ⟨rfl, rfl⟩
  have h8 : fcR [s1, q, s2] = [grtL (facL [s1, q, s2] n 0), grtL (facL [s1, q, s2] n 1), grtL (facL [s1, q, s2] n 2)] := by
    unfold fcR cntTo
    rw [if_pos ho, hn]
    rfl
  have h9 : fcR (frmL [s3, q, s2] n 0) = [grtL (facL [s1, q, s2] n 0), grtL (facL [s1, q, s2] n 1), grtL (facL [s3, q, s2] n 2)] := by
    rw [hfc, ← orb_pair h hn sl hs mP]
    unfold fcR cntTo
    rw [if_pos (okMan_true mP), fP]
    rfl
  have h10 : spB5 [s1, q, s2] = decide (lfR [s1, q, s2] = lfR (frmL [s3, q, s2] n 0)) := by
    unfold spB5 lfR leaL
    rw [hpe.1, hpe.2, if_pos ho, if_pos oP]
    simp
  exact ⟨frmL [s1, q, s3] n 0, frmL [s3, q, s2] n 0, frmL [s1, q, s2] n 0, frmL [s2, q, s1] n 0, frmL [s3, q, s1] n 0, ⟨h1, hpe, h2, h7, h3, h4, h5, h6, ⟨_, _, _, _, h8, h9⟩, h10, oK, oP, oF, oD, oT, lF _ _ _, lF _ _ _, lF _ _ _, lF _ _ _, lF _ _ _⟩⟩
end
end Go.Proofs.YtpmmpnhdimgkhaaGreat
