/- What is the same for maniplexes that are the same up to the numbers of their flags: polygons, colours, distances. Plain facts. -/
import Derived.Test.YtmgoaabeopnopaaTro
import Derived.Test.YtmgoaabeopnopaaPth
namespace Go.Proofs.Ytmgoaabeopnopaa
open Go.RowKit

section
variable {xss yss : List (List Int)} {n p : Nat} {φ : Nat → Nat}
theorem IsoS.symm (h : IsoS n xss yss φ) (hs : okSys n xss = true) (hs' : okSys n yss = true) : ∃ φ', IsoS n yss xss φ' ∧ ∀ q, q < n → φ (φ' q) = q := by
  have hex : ∀ q, ∃ p, q < n → p < n ∧ φ p = q := fun q => by
    by_cases hq : q < n
    · obtain ⟨p, h1⟩ := inj_onto h.im h.inj hq
      exact ⟨p, fun _ => h1⟩
    · exact ⟨0, fun h => absurd h hq⟩
  obtain ⟨ψ, hψ⟩ : ∃ ψ : Nat → Nat, ∀ q, q < n → ψ q < n ∧ φ (ψ q) = q := ⟨fun q => (hex q).choose, fun q => (hex q).choose_spec⟩
  refine ⟨ψ, ⟨h.len.symm, fun k hk => (hψ k hk).1, fun j k hj hk he => ?_, fun i g g' hg hg' k hk => ?_⟩, fun q hq => (hψ q hq).2⟩
  · rw [← (hψ j hj).2, ← (hψ k hk).2, he]
  · have h1 := h.mv i g' g hg' hg (ψ k) (hψ k hk).1
    rw [(hψ k hk).2] at h1
    have hi := sys_img hs' (List.mem_of_getElem? hg) (x := (k : Int)) (by omega) (by omega)
    have hj := sys_img hs (List.mem_of_getElem? hg') (x := ((ψ k : Nat) : Int)) (by omega) (by have := (hψ k hk).1; omega)
    have h2 := (hψ (fz g k).toNat (by omega)).2
    have := h.inj (ψ (fz g k).toNat) (fz g' (ψ k)).toNat (hψ _ (by omega)).1 (by omega) (by omega)
    omega
theorem IsoS.cut (h : IsoS n xss yss φ) (i c : Nat) : IsoS n ((xss.drop i).take c) ((yss.drop i).take c) φ := by
  refine ⟨by simp [h.len], h.im, h.inj, fun j g g' hg hg' k hk => ?_⟩
  rw [List.getElem?_take] at hg hg'
  split at hg
  · rename_i h1
    rw [if_pos h1] at hg'
    rw [List.getElem?_drop] at hg hg'
    exact h.mv _ g g' hg hg' k hk
  · simp at hg
theorem polL_strict : (polL xss n).Pairwise (· < ·) := sort_strict (ddTo_nodup _ _)
theorem iso_pol (h : IsoS n xss yss φ) (hs : okSys n xss = true) : polL xss n = polL yss n := by
  refine strict_eq polL_strict polL_strict fun x => ?_
  rw [polL_mem, polL_mem]
  have hl : ∀ p, p < n → (orbL xss n p).length = (orbL yss n (φ p)).length := fun p hp => by
    have ho := (tr_orb (h.tr hs) (n := n) (x := (p : Int)) ⟨by omega, by omega⟩).2
    have hl := congrArg List.length ho
    rwa [List.length_map, show (p : Int).toNat = p by simp] at hl
  constructor
  · rintro ⟨p, hp, he⟩
    exact ⟨φ p, h.im p hp, by rw [← hl p hp]; exact he⟩
  · rintro ⟨q, hq, he⟩
    obtain ⟨p, hp, rfl⟩ := inj_onto h.im h.inj hq
    exact ⟨p, hp, by rw [hl p hp]; exact he⟩
theorem iso_ty (h : IsoS n xss yss φ) (hs : okSys n xss = true) (M : Nat) : tyL xss n M = tyL yss n M := by
  unfold tyL
  refine List.map_congr_left fun i _ => ?_
  exact iso_pol (h.cut i 2) (okSys_cut hs i 2)
theorem iso_wn (h : IsoS n xss yss φ) (hs : okSys n xss = true) (hp : p < n) : ∀ (d : Nat) {x : Int}, Wn xss p d x → (0 ≤ x ∧ x < (n : Int)) ∧ Wn yss (φ p) d ((φ x.toNat : Nat) : Int)
  | 0, x, hw => by have hw : x = p := hw; subst hw; exact ⟨⟨by omega, by omega⟩, by simp [Wn]⟩
  | d + 1, x, hw => by
    obtain ⟨g, hg, y, hy, rfl⟩ := hw
    obtain ⟨hr, hw2⟩ := iso_wn h hs hp d hy
    refine ⟨sys_img hs hg hr.1 hr.2, ?_⟩
    obtain ⟨k, rfl⟩ := Int.eq_ofNat_of_zero_le hr.1
    obtain ⟨i, hi, hge⟩ := List.mem_iff_getElem.1 hg
    have hiy : i < yss.length := by rw [← h.len]; exact hi
    have hm := h.mv i g yss[i] (by rw [List.getElem?_eq_getElem hi, hge]) (List.getElem?_eq_getElem hiy) k (by omega)
    exact ⟨yss[i], List.getElem_mem hiy, _, hw2, by rw [hm]; simp⟩
theorem iso_isD (h : IsoS n xss yss φ) (hs : okSys n xss = true) (hs' : okSys n yss = true) (hp : p < n) {y d : Nat} (hy : y < n) (hd : IsD xss p y d) : IsD yss (φ p) (φ y) d := by
  obtain ⟨φ', h', hb⟩ := h.symm hs hs'
  refine ⟨by have := (iso_wn h hs hp d hd.1).2; simpa using this, fun k hk hw => hd.2 k hk ?_⟩
  have h2 := (iso_wn h' hs' (h.im p hp) k hw).2
  have e1 : φ' (φ p) = p := h.inj _ _ (h'.im _ (h.im p hp)) hp (hb _ (h.im p hp))
  have e2 : φ' (φ y) = y := h.inj _ _ (h'.im _ (h.im y hy)) hy (hb _ (h.im y hy))
  rw [Int.toNat_natCast, e1, e2] at h2
  exact h2
theorem mxL_of {l l' : List Int} (h : ∀ x ∈ l, x ∈ l') : mxL l ≤ mxL l' := by
  have key : ∀ (l : List Int) (a : Int), a ≤ mxL l' → (∀ x ∈ l, x ∈ l') → l.foldl max a ≤ mxL l' := by
    intro l
    induction l with
    | nil => intro a ha _; exact ha
    | cons x l ih =>
      intro a ha hx
      rw [List.foldl_cons]
      refine ih _ ?_ fun y hy => hx y (by simp [hy])
      have := (foldl_max_ge l' 0).2 x (hx x (by simp))
      unfold mxL at ha ⊢
      omega
  exact key l 0 (foldl_max_ge l' 0).1 h
theorem iso_mx (h : IsoS n xss yss φ) (hs : okSys n xss = true) (hs' : okSys n yss = true) (hp : p < n) (ha : (orbL xss n p).length = n) (ha' : (orbL yss n (φ p)).length = n) : mxL (distL xss n p) ≤ mxL (distL yss n (φ p)) := by
  refine mxL_of fun x hx => ?_
  obtain ⟨y, hyl, he⟩ := List.mem_iff_getElem.1 hx
  rw [distL_len hs hp ha] at hyl
  obtain ⟨d, h1, h2⟩ := (dok_distL hs hp ha).2 y hyl
  obtain ⟨e, h3, h4⟩ := (dok_distL hs' (h.im p hp) ha').2 (φ y) (h.im y hyl)
  have := isD_uniq h4 (iso_isD h hs hs' hp hyl h2)
  subst this
  have hxe : x = (e : Int) := by
    rw [List.getElem?_eq_getElem (by rw [distL_len hs hp ha]; exact hyl), he] at h1
    simpa using h1
  rw [hxe]
  exact List.mem_of_getElem? h3
theorem diaTo_le {B : Int} (hB : 0 ≤ B) : ∀ k : Nat, (∀ p : Nat, p < k → mxL (distL xss n p) ≤ B) → diaTo xss n k ≤ B
  | 0, _ => hB
  | k + 1, h => by
    have := diaTo_le hB k fun p hp => h p (by omega)
    have := h k (by omega)
    unfold diaTo
    omega
theorem diaTo_pos (xss : List (List Int)) (n : Nat) : ∀ k : Nat, 0 ≤ diaTo xss n k
  | 0 => Int.le_refl _
  | k + 1 => by have := diaTo_pos xss n k; unfold diaTo; omega
theorem iso_dia_le (h : IsoS n xss yss φ) (hs : okSys n xss = true) (hs' : okSys n yss = true) (ha : ∀ q : Nat, q < n → (orbL xss n q).length = n) (ha' : ∀ q : Nat, q < n → (orbL yss n q).length = n) : diaTo xss n n ≤ diaTo yss n n := by
  refine diaTo_le (diaTo_pos _ _ _) n fun p hp => ?_
  exact Int.le_trans (iso_mx h hs hs' hp (ha p hp) (ha' _ (h.im p hp))) (dia_le (h.im p hp))
theorem iso_dia (h : IsoS n xss yss φ) (hs : okSys n xss = true) (hs' : okSys n yss = true) (ha : ∀ q : Nat, q < n → (orbL xss n q).length = n) (ha' : ∀ q : Nat, q < n → (orbL yss n q).length = n) : diaTo xss n n = diaTo yss n n := by
  obtain ⟨φ', h', _⟩ := h.symm hs hs'
  exact Int.le_antisymm (iso_dia_le h hs hs' ha ha') (iso_dia_le h' hs' hs ha' ha)
/-- A maniplex is orientable if its flags can be coloured with two colours at all. -/
theorem col_of {C : Nat → Bool} (hs : okSys n xss = true) (hn : 0 < n) (ha : (orbL xss n ((0 : Nat) : Int)).length = n) (hC : ∀ g ∈ xss, ∀ f : Nat, f < n → C (fz g f).toNat ≠ C f) : colB xss n = true := by
  have hw : ∀ (k : Nat) {x : Int}, Wn xss ((0 : Nat) : Int) k x → (0 ≤ x ∧ x < (n : Int)) ∧ C x.toNat = (C 0 ^^ decide (k % 2 = 1)) := by
    intro k
    induction k with
    | zero => intro x hx; have hx : x = ((0 : Nat) : Int) := hx; subst hx; exact ⟨⟨by omega, by omega⟩, by simp⟩
    | succ k ih =>
      rintro x ⟨g, hg, y, hy, rfl⟩
      obtain ⟨hr, hc⟩ := ih hy
      refine ⟨sys_img hs hg hr.1 hr.2, ?_⟩
      have h1 := hC g hg y.toNat (by omega)
      rw [show ((y.toNat : Nat) : Int) = y by omega] at h1
      rw [hc] at h1
      have h2 : decide ((k + 1) % 2 = 1) = !decide (k % 2 = 1) := by
        by_cases h : k % 2 = 1
        · rw [decide_eq_true h, decide_eq_false (by omega)]; rfl
        · rw [decide_eq_false h, decide_eq_true (by omega)]; rfl
      rw [h2]
      cases hcc : C (fz g y).toNat <;> cases hc0 : C 0 <;> cases hk : decide (k % 2 = 1) <;> rw [hcc, hc0, hk] at h1 <;> simp at h1 <;> rfl
  refine colB_true fun g hg f hf => ?_
  have hi := sys_img hs hg (x := (f : Int)) (by omega) (by omega)
  obtain ⟨z, hz⟩ := Int.eq_ofNat_of_zero_le hi.1
  obtain ⟨d, h1, h2⟩ := (dok_distL hs hn ha).2 f hf
  obtain ⟨e, h3, h4⟩ := (dok_distL hs hn ha).2 z (by omega)
  rw [hz, fz_at (colL_at h1), fz_at (colL_at h3)]
  have h5 := (hw d h2.1).2
  have h6 := (hw e h4.1).2
  have h7 := hC g hg f hf
  rw [hz, h6] at h7
  rw [Int.toNat_natCast] at h5
  rw [h5] at h7
  intro he
  have : e % 2 = d % 2 := by omega
  rw [this] at h7
  exact h7 rfl
theorem of_col (hs : okSys n xss = true) (h : colB xss n = true) : ∃ C : Nat → Bool, ∀ g ∈ xss, ∀ f : Nat, f < n → C (fz g f).toNat ≠ C f := by
  have hok : ColOk xss n (colL xss n) := @of_decide_eq_true _ (Classical.propDecidable _) h
  refine ⟨fun f => decide (fz (colL xss n) f = 1), fun g hg f hf => ?_⟩
  have h1 := hok g hg f hf
  have hi := sys_img hs hg (x := (f : Int)) (by omega) (by omega)
  have e : (((fz g f).toNat : Nat) : Int) = fz g f := by omega
  have key : ∀ k : Nat, fz (colL xss n) (k : Int) = 0 ∨ fz (colL xss n) (k : Int) = 1 := fun k => by
    cases hk : (colL xss n)[k]? with
    | none => left; simp [fz, List.getD, hk]
    | some v =>
      rw [fz_at hk]
      unfold colL at hk
      rw [List.getElem?_map] at hk
      obtain ⟨u, _, rfl⟩ := Option.map_eq_some_iff.1 hk
      omega
  simp only [e]
  rcases key (fz g f).toNat with h2 | h2 <;> rcases key f with h3 | h3 <;> rw [e] at h2 <;> rw [h2, h3] at h1 ⊢ <;> first | exact absurd rfl h1 | simp
theorem iso_col (h : IsoS n xss yss φ) (hs : okSys n xss = true) (hs' : okSys n yss = true) (hn : 0 < n) (ha' : (orbL yss n ((0 : Nat) : Int)).length = n) (hc : colB xss n = true) : colB yss n = true := by
  obtain ⟨φ', h', hb⟩ := h.symm hs hs'
  obtain ⟨C, hC⟩ := of_col hs hc
  refine col_of (C := fun q => C (φ' q)) hs' hn ha' fun g hg f hf => ?_
  obtain ⟨i, hi, hge⟩ := List.mem_iff_getElem.1 hg
  have hix : i < xss.length := by rw [h.len]; exact hi
  have hm := h'.mv i g xss[i] (by rw [List.getElem?_eq_getElem hi, hge]) (List.getElem?_eq_getElem hix) f hf
  have h1 := hC xss[i] (List.getElem_mem hix) (φ' f) (h'.im f hf)
  rw [← hm, Int.toNat_natCast] at h1
  exact h1
/-- Renumbering. -/
theorem ren_iso {p : List Int} (hs : okSys n xss = true) (hp : p.length = n) (hok : okP p = true) : IsoS n xss (renM xss p) (fun k => (fz p k).toNat) := by
  refine ⟨(renM_length _ _).symm, fun k hk => ?_, fun j k hj hk he => ?_, fun i g g' hg hg' k hk => ?_⟩
  · have := fz_in hp hok (x := (k : Int)) (by omega) (by omega); omega
  · have h1 := fz_in hp hok (x := (j : Int)) (by omega) (by omega)
    have h2 := fz_in hp hok (x := (k : Int)) (by omega) (by omega)
    have := fz_inj hp hok (x := (j : Int)) (y := (k : Int)) (by omega) (by omega) (by omega) (by omega) (by have he : (fz p j).toNat = (fz p k).toNat := he; omega)
    omega
  · rw [renM_at hg] at hg'
    injection hg' with hg'
    subst hg'
    have hr := (sys_parts hs).2.2.2 g (List.mem_of_getElem? hg)
    have hgk := fz_in (n := n) (by omega) hr.2 (x := (k : Int)) (by omega) (by omega)
    have h1 := fz_in hp hok (x := (k : Int)) (by omega) (by omega)
    have h2 := fz_in hp hok hgk.1 hgk.2
    change (((fz p (((fz g k).toNat : Nat) : Int)).toNat : Nat) : Int) = fz (conjL g p) (((fz p k).toNat : Nat) : Int)
    rw [show (((fz g k).toNat : Nat) : Int) = fz g k by omega, show (((fz p k).toNat : Nat) : Int) = fz p k by omega, show (((fz p (fz g k)).toNat : Nat) : Int) = fz p (fz g k) by omega]
    exact (fz_conj (n := n) (by omega) hp hr.2 hok (by omega) (by omega)).symm
end
end Go.Proofs.Ytmgoaabeopnopaa
