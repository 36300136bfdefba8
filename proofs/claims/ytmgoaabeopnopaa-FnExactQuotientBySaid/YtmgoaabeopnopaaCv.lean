/- Coverings: lists that take the moves of one maniplex over into those of another one with another number of flags, and how they are found. Plain facts. -/
import Derived.Test.YtmgoaabeopnopaaL19
namespace Go.Proofs.Ytmgoaabeopnopaa
open Go.RowKit

/-- The list L gives each flag of the one system a flag of the other one, and agrees with the moves. -/
structure Cvr (n nk : Nat) (xss yss : List (List Int)) (L : List Int) : Prop where
  len : L.length = n
  im : ∀ k : Nat, k < n → 0 ≤ fz L k ∧ fz L k < (nk : Int)
  mv : ∀ (i : Nat) (g h : List Int), xss[i]? = some g → yss[i]? = some h → ∀ k : Nat, k < n → fz L (fz g k) = fz h (fz L k)
section
variable {xss yss : List (List Int)} {n nk : Nat}
theorem cvr_uniq {L L' : List Int} (hs : okSys n xss = true) (hl : xss.length = yss.length) (hn : 0 < n) (hall : (orbL xss n ((0 : Nat) : Int)).length = n) (h : Cvr n nk xss yss L) (h' : Cvr n nk xss yss L') (h0 : fz L 0 = fz L' 0) : L = L' := by
  obtain ⟨j, _, ho⟩ := oinv_orb hs hn
  have key : ∀ (d : Nat) {x : Int}, Wn xss ((0 : Nat) : Int) d x → (0 ≤ x ∧ x < (n : Int)) ∧ fz L x = fz L' x := by
    intro d
    induction d with
    | zero => intro x hx; have hx : x = ((0 : Nat) : Int) := hx; subst hx; exact ⟨⟨by omega, by omega⟩, h0⟩
    | succ d ih =>
      rintro x ⟨g, hg, y, hy, rfl⟩
      obtain ⟨hr, he⟩ := ih hy
      obtain ⟨i, hi, hgi⟩ := List.mem_iff_getElem.1 hg
      have h1 : xss[i]? = some g := by rw [List.getElem?_eq_getElem hi, hgi]
      have h2 : yss[i]? = some yss[i] := List.getElem?_eq_getElem (by omega)
      obtain ⟨k, rfl⟩ := Int.eq_ofNat_of_zero_le hr.1
      have h3 := h.mv i g _ h1 h2 k (by omega)
      have h4 := h'.mv i g _ h1 h2 k (by omega)
      exact ⟨sys_img hs hg hr.1 hr.2, by rw [h3, h4, he]⟩
  refine ext_fz h.len h'.len fun k hk => ?_
  obtain ⟨d, hd⟩ := ho.ex (k : Int) (mem_all hall (orb_passed hs hn) hk)
  exact (key d hd.1).2
/-- The one that gives the flag 0 a flag, or none. -/
noncomputable def cvL (xss yss : List (List Int)) (n nk : Nat) (q : Nat) : Option (List Int) :=
  open Classical in if h : ∃ L, Cvr n nk xss yss L ∧ fz L 0 = (q : Int) then some h.choose else none
theorem cvL_none {q : Nat} (h : ∀ L, Cvr n nk xss yss L → fz L 0 ≠ (q : Int)) : cvL xss yss n nk q = none := by
  unfold cvL
  rw [dif_neg]
  rintro ⟨L, h1, h2⟩
  exact h L h1 h2
theorem cvL_hom {q : Nat} {L : List Int} (h : cvL xss yss n nk q = some L) : Cvr n nk xss yss L ∧ fz L 0 = (q : Int) := by
  unfold cvL at h
  split at h
  · rename_i hx
    injection h with h
    subst h
    exact hx.choose_spec
  · cases h
theorem cvL_some {q : Nat} {L : List Int} (hs : okSys n xss = true) (hl : xss.length = yss.length) (hn : 0 < n) (hall : (orbL xss n ((0 : Nat) : Int)).length = n) (h : Cvr n nk xss yss L) (h0 : fz L 0 = (q : Int)) : cvL xss yss n nk q = some L := by
  have hx : ∃ L, Cvr n nk xss yss L ∧ fz L 0 = (q : Int) := ⟨L, h, h0⟩
  unfold cvL
  rw [dif_pos hx]
  have := hx.choose_spec
  rw [cvr_uniq hs hl hn hall this.1 h (by rw [this.2, h0])]
theorem cvL_len {q : Nat} {L : List Int} (h : cvL xss yss n nk q = some L) : L.length = n := (cvL_hom h).1.len

/-- What the list of images holds while flags are gone through in the order O: at the place i, when j moves are done. -/
structure CInv (n nk : Nat) (xss yss : List (List Int)) (q : Nat) (O : List Int) (i j : Nat) (D : List Int) : Prop where
  len : D.length = n
  val : ∀ y : Nat, y < n → D[y]? = some (-1) ∨ ∃ v : Nat, v < nk ∧ D[y]? = some (v : Int)
  hd : D[0]? = some (q : Int)
  forced : ∀ L, Cvr n nk xss yss L → fz L 0 = (q : Int) → ∀ y v : Nat, D[y]? = some (v : Int) → fz L y = v
  done : ∀ (a : Nat) (x : Int) (b : Nat) (g h : List Int), a < i ∨ (a = i ∧ b < j) → O[a]? = some x → xss[b]? = some g → yss[b]? = some h → 0 ≤ fz D x ∧ 0 ≤ fz D (fz g x) ∧ fz D (fz g x) = fz h (fz D x)
theorem cinv_start {q : Nat} {O : List Int} (hn : 0 < n) (hq : q < nk) : CInv n nk xss yss q O 0 0 ((List.replicate n (-1)).set 0 (q : Int)) := by
  refine ⟨by simp, fun y hy => ?_, by simp [hn], fun L _ h0 y v hv => ?_, fun a x b g h hab => absurd hab (by omega)⟩
  · by_cases e : 0 = y
    · subst e
      exact .inr ⟨q, hq, by simp [hn]⟩
    · exact .inl (by rw [List.getElem?_set_ne e]; simp [hy])
  · by_cases e : 0 = y
    · subst e
      rw [List.getElem?_set_self (by simpa using hn)] at hv
      injection hv with hv
      rw [← hv]
      exact h0
    · rw [List.getElem?_set_ne e] at hv
      obtain ⟨h1, h2⟩ := List.getElem?_eq_some_iff.1 hv
      rw [List.getElem_replicate] at h2
      omega
theorem cinv_next {q i : Nat} {O D : List Int} (h : CInv n nk xss yss q O i xss.length D) : CInv n nk xss yss q O (i + 1) 0 D :=
  ⟨h.len, h.val, h.hd, h.forced, fun a x b g h' hab hx hg hh => h.done a x b g h' (by
    have := (List.getElem?_eq_some_iff.1 hg).1
    omega) hx hg hh⟩
/-- The flag whose turn it is has its image. -/
theorem cinv_at {p q i k j : Nat} {O D : List Int} (hs : okSys n xss = true) (hl : xss.length = yss.length) (ho : OInv xss n ((0 : Nat) : Int) k O) (hall : ∀ y : Nat, y < n → (y : Int) ∈ O) (h : CInv n nk xss yss q O i j D) (hx : O[i]? = some (p : Int)) (hp : p < n) : ∃ v : Nat, v < nk ∧ D[p]? = some (v : Int) := by
  have key : 0 ≤ fz D p := by
    rcases Nat.eq_zero_or_pos i with rfl | hi
    · have h1 := ho.hd
      rw [hx] at h1
      injection h1 with h1
      have h2 : p = 0 := by omega
      subst h2
      have := fz_at h.hd
      rw [this]
      omega
    · obtain ⟨b, y, g, hb, hby, hg, he⟩ := parent hs ho hall hx hi
      obtain ⟨c, hc, hce⟩ := List.mem_iff_getElem.1 hg
      have := (h.done b y c g yss[c] (.inl hb) hby (by rw [List.getElem?_eq_getElem hc, hce]) (List.getElem?_eq_getElem (by omega))).2.1
      rw [he] at this
      exact this
  obtain ⟨v, hv⟩ := fz_nn key (by rw [h.len]; exact hp)
  rcases h.val p hp with h1 | ⟨u, hu, h1⟩
  · rw [hv] at h1; injection h1 with h1; omega
  · exact ⟨u, hu, h1⟩
/-- A move that leads to a flag with no image yet. -/
theorem cinv_new {p q i j r m v : Nat} {O D g h : List Int} (hI : CInv n nk xss yss q O i j D) (hx : O[i]? = some (p : Int)) (hg : xss[j]? = some g) (hh : yss[j]? = some h) (hpn : p < n) (hr : fz g p = (r : Int)) (hrn : r < n) (hv : D[p]? = some (v : Int)) (hm : fz h v = (m : Int)) (hmn : m < nk) (hD : D[r]? = some (-1)) :
    CInv n nk xss yss q O i (j + 1) (D.set r (m : Int)) := by
  have hpr : r ≠ p := fun e => by subst e; rw [hD] at hv; injection hv with hv; omega
  have hfz : ∀ x : Int, 0 ≤ fz D x → x.toNat ≠ r := fun x h0 e => by
    unfold fz at h0
    rw [List.getD_eq_getElem?_getD, e, hD] at h0
    exact absurd h0 (by decide)
  have hkeep : ∀ x : Int, x.toNat ≠ r → fz (D.set r (m : Int)) x = fz D x := fun x hx => by
    unfold fz
    rw [List.getD_eq_getElem?_getD, List.getD_eq_getElem?_getD, List.getElem?_set_ne (Ne.symm hx)]
  refine ⟨by simp [hI.len], fun y hy => ?_, ?_, fun L hL h0 y w hw => ?_, fun a x b g' h' hab hax hg' hh' => ?_⟩
  · by_cases e : r = y
    · subst e
      exact .inr ⟨m, hmn, List.getElem?_set_self (by rw [hI.len]; exact hy)⟩
    · rw [List.getElem?_set_ne e]; exact hI.val y hy
  · by_cases e : r = 0
    · subst e
      have := hI.hd
      rw [hD] at this
      injection this with this
      omega
    · rw [List.getElem?_set_ne e]; exact hI.hd
  · by_cases e : r = y
    · subst e
      rw [List.getElem?_set_self (by rw [hI.len]; exact hrn)] at hw
      injection hw with hw
      rw [← hw, ← hr, ← hm, ← hI.forced L hL h0 p v hv]
      exact hL.mv j g h hg hh p hpn
    · rw [List.getElem?_set_ne e] at hw
      exact hI.forced L hL h0 y w hw
  · by_cases hlast : a = i ∧ b = j
    · obtain ⟨rfl, rfl⟩ := hlast
      rw [hx] at hax; injection hax with hax; subst hax
      rw [hg] at hg'; injection hg' with hg'; subst hg'
      rw [hh] at hh'; injection hh' with hh'; subst hh'
      have e1 : fz D p = (v : Int) := fz_at hv
      have e2 : fz (D.set r (m : Int)) (p : Int) = (v : Int) := by rw [hkeep _ (by simpa using hpr.symm), e1]
      have e3 : fz (D.set r (m : Int)) (r : Int) = (m : Int) := fz_at (List.getElem?_set_self (by rw [hI.len]; exact hrn))
      rw [hr, e2, e3, hm]
      exact ⟨by omega, by omega, rfl⟩
    · obtain ⟨h1, h2, h3⟩ := hI.done a x b g' h' (by omega) hax hg' hh'
      rw [hkeep _ (hfz _ h1), hkeep _ (hfz _ h2)]
      exact ⟨h1, h2, h3⟩
/-- A move that leads to a flag with the image that it should have. -/
theorem cinv_same {p q i j r m v : Nat} {O D g h : List Int} (hI : CInv n nk xss yss q O i j D) (hx : O[i]? = some (p : Int)) (hg : xss[j]? = some g) (hh : yss[j]? = some h) (hr : fz g p = (r : Int)) (hv : D[p]? = some (v : Int)) (hm : fz h v = (m : Int)) (hD : D[r]? = some (m : Int)) :
    CInv n nk xss yss q O i (j + 1) D := by
  refine ⟨hI.len, hI.val, hI.hd, hI.forced, fun a x b g' h' hab hax hg' hh' => ?_⟩
  by_cases hlast : a = i ∧ b = j
  · obtain ⟨rfl, rfl⟩ := hlast
    rw [hx] at hax; injection hax with hax; subst hax
    rw [hg] at hg'; injection hg' with hg'; subst hg'
    rw [hh] at hh'; injection hh' with hh'; subst hh'
    have e1 : fz D p = (v : Int) := fz_at hv
    have e3 : fz D (r : Int) = (m : Int) := fz_at hD
    rw [hr, e1, e3, hm]
    exact ⟨by omega, by omega, rfl⟩
  · exact hI.done a x b g' h' (by omega) hax hg' hh'
/-- A move that leads to a flag with another image: there is none. -/
theorem cinv_fail {p q i j r m v u : Nat} {O D g h : List Int} (hI : CInv n nk xss yss q O i j D) (hg : xss[j]? = some g) (hh : yss[j]? = some h) (hpn : p < n) (hr : fz g p = (r : Int)) (hv : D[p]? = some (v : Int)) (hm : fz h v = (m : Int)) (hD : D[r]? = some (u : Int)) (hne : u ≠ m) : cvL xss yss n nk q = none := by
  refine cvL_none fun L hL h0 => ?_
  have h1 := hI.forced L hL h0 p v hv
  have h2 := hI.forced L hL h0 r u hD
  have h3 := hL.mv j g h hg hh p hpn
  rw [h1, hr, h2, hm] at h3
  omega
theorem cinv_done {q i : Nat} {O D : List Int} (hs : okSys n xss = true) (hl : xss.length = yss.length) (hn : 0 < n) (hpos : 0 < xss.length) (hall : (orbL xss n ((0 : Nat) : Int)).length = n) (hin : ∀ y : Nat, y < n → (y : Int) ∈ O) (hI : CInv n nk xss yss q O i 0 D) (hi : O.length ≤ i) : cvL xss yss n nk q = some D := by
  have hd : ∀ (b : Nat) (g h : List Int), xss[b]? = some g → yss[b]? = some h → ∀ k : Nat, k < n → 0 ≤ fz D k ∧ fz D (fz g k) = fz h (fz D k) := fun b g h hg hh k hk => by
    obtain ⟨a, ha, hae⟩ := List.mem_iff_getElem.1 (hin k hk)
    have := hI.done a (k : Int) b g h (.inl (by omega)) (by rw [List.getElem?_eq_getElem ha, hae]) hg hh
    exact ⟨this.1, this.2.2⟩
  refine cvL_some hs hl hn hall ⟨hI.len, fun k hk => ?_, fun b g h hg hh k hk => (hd b g h hg hh k hk).2⟩ (fz_at hI.hd)
  have h0 := (hd 0 xss[0] yss[0] (List.getElem?_eq_getElem hpos) (List.getElem?_eq_getElem (by omega)) k hk).1
  rcases hI.val k hk with h1 | ⟨v, hv, h1⟩
  · have := fz_at h1; omega
  · have := fz_at h1; omega
end
end Go.Proofs.Ytmgoaabeopnopaa
