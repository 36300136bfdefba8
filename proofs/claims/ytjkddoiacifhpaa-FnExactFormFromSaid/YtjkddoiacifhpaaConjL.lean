import Derived.Test.YtjkddoiacifhpaaConjM
import Derived.Test.YtjkddoiacifhpaaOrdT
namespace Go.Proofs.Ytjkddoiacifhpaa
open Go.RowKit

theorem fz_some {xs : List Int} {n : Nat} (hxn : xs.length = n) {x : Int} (h0 : 0 ≤ x) (h1 : x < (n : Int)) : xs[x.toNat]? = some (fz xs x) := by
  have h : x.toNat < xs.length := by omega
  simp [fz, h]
theorem fz_then {xs ys : List Int} {n : Nat} (hxn : xs.length = n) (hyn : ys.length = n) (hp : okP xs = true) {x : Int} (h0 : 0 ≤ x) (h1 : x < (n : Int)) : fz (thenL xs ys) x = fz ys (fz xs x) := by
  have hx := fz_some hxn h0 h1
  have hr := fz_in hxn hp h0 h1
  obtain ⟨m, hm⟩ := Int.eq_ofNat_of_zero_le hr.1
  have hy := fz_some hyn hr.1 hr.2
  rw [hm] at hx hy
  rw [Int.toNat_natCast] at hy
  have h2 := thenL_at hx hy
  rw [hm]
  obtain ⟨p, rfl⟩ := Int.eq_ofNat_of_zero_le h0
  rw [Int.toNat_natCast] at h2
  exact fz_at h2
theorem okP_of {zs : List Int} {n : Nat} (hn : zs.length = n) (h4 : n ≤ 400) (h1 : ∀ x : Int, 0 ≤ x → x < (n : Int) → 0 ≤ fz zs x ∧ fz zs x < (n : Int)) (h2 : ∀ x y : Int, 0 ≤ x → x < (n : Int) → 0 ≤ y → y < (n : Int) → fz zs x = fz zs y → x = y) : okP zs = true := by
  refine decide_eq_true ⟨by omega, fun x hx => ?_, ?_⟩
  · obtain ⟨j, hj, rfl⟩ := List.mem_iff_getElem.1 hx
    have h := h1 j (by omega) (by omega)
    rw [fz_at (List.getElem?_eq_getElem hj)] at h
    rw [hn]
    exact h
  · refine List.pairwise_iff_getElem.2 fun i j hi hj hij he => ?_
    have h := h2 i j (by omega) (by omega) (by omega) (by omega) (by rw [fz_at (List.getElem?_eq_getElem hi), fz_at (List.getElem?_eq_getElem hj), he])
    omega
theorem okP_len {xs : List Int} {n : Nat} (hxn : xs.length = n) (hp : okP xs = true) : n ≤ 400 := by have := (of_decide_eq_true hp).1; omega
theorem okP_then {xs ys : List Int} {n : Nat} (hxn : xs.length = n) (hyn : ys.length = n) (hp : okP xs = true) (hq : okP ys = true) : okP (thenL xs ys) = true := by
  refine okP_of (by rw [thenL_length, hxn]) (okP_len hxn hp) (fun x h0 h1 => ?_) (fun x y h0 h1 g0 g1 he => ?_)
  · have h2 := fz_in hxn hp h0 h1
    rw [fz_then hxn hyn hp h0 h1]
    exact fz_in hyn hq h2.1 h2.2
  · rw [fz_then hxn hyn hp h0 h1, fz_then hxn hyn hp g0 g1] at he
    have a := fz_in hxn hp h0 h1
    have b := fz_in hxn hp g0 g1
    exact fz_inj hxn hp h0 h1 g0 g1 (fz_inj hyn hq a.1 a.2 b.1 b.2 he)
theorem okP_inv {xs : List Int} (hp : okP xs = true) : okP (invL xs) = true := by rw [inv_powL]; exact okP_powL hp _
/-- The inverse, from the other side. -/
theorem fz_inv2 {xs : List Int} {n : Nat} (hxn : xs.length = n) (hp : okP xs = true) {x : Int} (h0 : 0 ≤ x) (h1 : x < (n : Int)) : fz xs (fz (invL xs) x) = x := by
  have h := pw_add hxn hp h0 h1 (-1) 1
  have e1 : ∀ z, pwT xs 1 z = fz xs z := fun z => rfl
  have e2 : pwT xs (-1) x = fz (invL xs) x := rfl
  rw [e1, e2, show (-1 : Int) + 1 = 0 by decide, pw_zero] at h
  exact h
theorem conj_len {xs ys : List Int} {n : Nat} (hyn : ys.length = n) : (conjL xs ys).length = n := by unfold conjL; rw [thenL_length, thenL_length, invL_len, hyn]
theorem okP_conj {xs ys : List Int} {n : Nat} (hxn : xs.length = n) (hyn : ys.length = n) (hp : okP xs = true) (hq : okP ys = true) : okP (conjL xs ys) = true := by
  have hi : (invL ys).length = n := by rw [invL_len, hyn]
  exact okP_then (by rw [thenL_length, hi]) hyn (okP_then hi hxn (okP_inv hq) hp) hq
theorem fz_conj {xs ys : List Int} {n : Nat} (hxn : xs.length = n) (hyn : ys.length = n) (hp : okP xs = true) (hq : okP ys = true) {x : Int} (h0 : 0 ≤ x) (h1 : x < (n : Int)) : fz (conjL xs ys) (fz ys x) = fz ys (fz xs x) := by
  have hi : (invL ys).length = n := by rw [invL_len, hyn]
  have h2 := fz_in hyn hq h0 h1
  unfold conjL
  rw [fz_then (by rw [thenL_length, hi]) hyn (okP_then hi hxn (okP_inv hq) hp) h2.1 h2.2, fz_then hi hxn (okP_inv hq) h2.1 h2.2, fz_inv hyn hq h0 h1]
theorem list_fz {xs ys : List Int} {n : Nat} (hxn : xs.length = n) (hyn : ys.length = n) (h : ∀ x : Int, 0 ≤ x → x < (n : Int) → fz xs x = fz ys x) : xs = ys := by
  apply List.ext_getElem (by omega)
  intro i h1 h2
  have := h i (by omega) (by omega)
  rwa [fz_at (List.getElem?_eq_getElem h1), fz_at (List.getElem?_eq_getElem h2)] at this
/-- Conjugating twice is conjugating by the product. -/
theorem conj_conj {p q r : List Int} {n : Nat} (hpn : p.length = n) (hqn : q.length = n) (hrn : r.length = n) (hp : okP p = true) (hq : okP q = true) (hr : okP r = true) : conjL (conjL p q) r = conjL p (thenL q r) := by
  have hc : (conjL p q).length = n := conj_len hqn
  have ht : (thenL q r).length = n := by rw [thenL_length, hqn]
  have hok := okP_then hqn hrn hq hr
  refine list_fz (conj_len hrn) (conj_len ht) fun y h0 h1 => ?_
  have i0 := fz_in (xs := invL (thenL q r)) (by rw [invL_len, ht]) (okP_inv hok) h0 h1
  have e := fz_inv2 ht hok h0 h1
  obtain ⟨x, hx⟩ : ∃ x, fz (invL (thenL q r)) y = x := ⟨_, rfl⟩
  rw [hx] at e i0
  rw [← e, fz_conj hpn ht hp hok i0.1 i0.2]
  have a := fz_in hqn hq i0.1 i0.2
  have b := fz_in hpn hp i0.1 i0.2
  rw [fz_then hqn hrn hq i0.1 i0.2, fz_conj hc hrn (okP_conj hpn hqn hp hq) hr a.1 a.2, fz_conj hpn hqn hp hq i0.1 i0.2, fz_then hqn hrn hq b.1 b.2]
theorem decomp_cyc {xs : List Int} {n : Nat} (hxn : xs.length = n) (hp : okP xs = true) : Decomp (fz xs) n (cycL xs) := by
  have e : cycTo xs n n = cycL xs := by unfold cycL; rw [hxn]
  have h := cyc_all hxn hp n (Nat.le_refl _)
  have hps := cycTo_passed hxn hp n (Nat.le_refl _)
  rw [e] at h hps
  exact ⟨h.1, fun c hc => (cyc_bounds hxn hp n (Nat.le_refl _) c (by rw [e]; exact hc)).1, hps, flat_len hxn hp⟩
theorem decomp_conj {xs ys : List Int} {n : Nat} (hxn : xs.length = n) (hyn : ys.length = n) (hp : okP xs = true) (hq : okP ys = true) : Decomp (fz (conjL xs ys)) n ((cycL xs).map fun c => c.map (fz ys)) := by
  have d := decomp_cyc hxn hp
  have hfl : ((cycL xs).map fun c => c.map (fz ys)).flatten = (cycL xs).flatten.map (fz ys) := by rw [List.map_flatten]
  have hin : ∀ c ∈ cycL xs, ∀ x ∈ c, 0 ≤ x ∧ x < (n : Int) := fun c hc x hx => d.ps.1 x (List.mem_flatten.2 ⟨c, hc, hx⟩)
  refine ⟨fun c' hc' i x hx => ?_, fun c' hc' => ?_, ?_, by rw [hfl, List.length_map, d.len]⟩
  · obtain ⟨c, hc, rfl⟩ := List.mem_map.1 hc'
    rw [List.getElem?_map] at hx
    obtain ⟨z, hz, rfl⟩ := Option.map_eq_some_iff.1 hx
    have hr := hin c hc z (List.mem_of_getElem? hz)
    rw [List.length_map, List.getElem?_map, d.cyc c hc i z hz, fz_conj hxn hyn hp hq hr.1 hr.2]
    rfl
  · obtain ⟨c, hc, rfl⟩ := List.mem_map.1 hc'
    rw [List.length_map]
    exact d.ne c hc
  · rw [hfl]
    refine ⟨fun y hy => ?_, ?_⟩
    · obtain ⟨x, hx, rfl⟩ := List.mem_map.1 hy
      have := d.ps.1 x hx
      exact fz_in hyn hq this.1 this.2
    · refine List.pairwise_map.2 (List.Pairwise.imp_of_mem ?_ d.ps.2)
      intro a b ha hb hab he
      have h1 := d.ps.1 a ha
      have h2 := d.ps.1 b hb
      exact hab (fz_inj hyn hq h1.1 h1.2 h2.1 h2.2 he)
theorem sorted_perm : ∀ {l1 l2 : List Int}, l1.Pairwise (· ≤ ·) → l2.Pairwise (· ≤ ·) → l1.Perm l2 → l1 = l2
  | [], l2, _, _, h => (List.nil_perm.1 h).symm ▸ rfl
  | a :: t, [], _, _, h => by have := h.length_eq; simp at this
  | a :: t, b :: s, h1, h2, h => by
    have ha := List.pairwise_cons.1 h1
    have hb := List.pairwise_cons.1 h2
    have e : a = b := by
      have m1 : a ∈ b :: s := h.mem_iff.1 (by simp)
      have m2 : b ∈ a :: t := h.mem_iff.2 (by simp)
      rcases List.mem_cons.1 m1 with e | m1
      · exact e
      rcases List.mem_cons.1 m2 with e | m2
      · exact e.symm
      have := hb.1 a m1
      have := ha.1 b m2
      omega
    subst e
    rw [sorted_perm ha.2 hb.2 (List.Perm.cons_inv h)]
/-- Conjugates have the same lengths of cycles. -/
theorem conj_lens {xs ys : List Int} {n : Nat} (hxn : xs.length = n) (hyn : ys.length = n) (hp : okP xs = true) (hq : okP ys = true) : lensL (conjL xs ys) = lensL xs := by
  have h1 := decomp_lens (decomp_cyc (conj_len (xs := xs) hyn) (okP_conj hxn hyn hp hq)) (decomp_conj hxn hyn hp hq)
  have h2 : ((cycL xs).map fun c => c.map (fz ys)).map (fun c => (c.length : Int)) = lenL xs := by
    rw [List.map_map, lenL]
    apply List.map_congr_left
    intro c _
    simp
  rw [h2] at h1
  exact sorted_perm (sortL_sorted _) (sortL_sorted _) ((sortL_perm _).trans (h1.trans (sortL_perm _).symm))
end Go.Proofs.Ytjkddoiacifhpaa
