import Derived.Test.YtmgoaabeopnopaaTro
import Derived.Test.YtmgoaabeopnopaaL27
import Derived.Test.YtmgoaabeopnopaaL16
import Derived.Test.YtmgoaabeopnopaaL9
import Derived.WalkMore
import Derived.Test.YtmgoaabeopnopaaL17
/- Lists that take the moves of one maniplex over into those of another one, and how they are found. Plain facts. -/
namespace Go.Proofs.Ytmgoaabeopnopaa
open Go.RowKit

/-- The list L gives each flag of the one system a flag of the other one, and agrees with the moves. -/
structure Hom (n : Nat) (xss yss : List (List Int)) (L : List Int) : Prop where
  len : L.length = n
  im : ∀ k : Nat, k < n → 0 ≤ fz L k ∧ fz L k < (n : Int)
  mv : ∀ (i : Nat) (g h : List Int), xss[i]? = some g → yss[i]? = some h → ∀ k : Nat, k < n → fz L (fz g k) = fz h (fz L k)
section
variable {xss yss : List (List Int)} {n : Nat}
theorem hom_uniq {L L' : List Int} (hs : okSys n xss = true) (hl : xss.length = yss.length) (hn : 0 < n) (hall : (orbL xss n ((0 : Nat) : Int)).length = n) (h : Hom n xss yss L) (h' : Hom n xss yss L') (h0 : fz L 0 = fz L' 0) : L = L' := by
  obtain ⟨j, _, ho⟩ := oinv_orb hs hn
  have key : ∀ (d : Nat) {x : Int}, Wn xss ((0 : Nat) : Int) d x → (0 ≤ x ∧ x < (n : Int)) ∧ fz L x = fz L' x := by
    intro d
    induction d with
    | zero => intro x hx; have hx : x = ((0 : Nat) : Int) := hx; subst hx; exact ⟨⟨by omega, by omega⟩, h0⟩
    | succ d ih =>
      rintro x ⟨g, hg, y, hy, rfl⟩
      obtain ⟨hr, he⟩ := ih hy
      obtain ⟨i, hi, hgi⟩ := List.mem_iff_getElem.1 hg
      have h1 : xss[i]? = some g := by rw [List.getElem?_eq_getElem hi, hgi]
      have h2 : yss[i]? = some yss[i] := List.getElem?_eq_getElem (by omega)
      obtain ⟨k, rfl⟩ := Int.eq_ofNat_of_zero_le hr.1
      have h3 := h.mv i g _ h1 h2 k (by omega)
      have h4 := h'.mv i g _ h1 h2 k (by omega)
      exact ⟨sys_img hs hg hr.1 hr.2, by rw [h3, h4, he]⟩
  refine ext_fz h.len h'.len fun k hk => ?_
  obtain ⟨d, hd⟩ := ho.ex (k : Int) (mem_all hall (orb_passed hs hn) hk)
  exact (key d hd.1).2
/-- The one that gives the flag 0 a flag, or none. -/
noncomputable def isoL (xss yss : List (List Int)) (n : Nat) (q : Nat) : Option (List Int) :=
  open Classical in if h : ∃ L, Hom n xss yss L ∧ fz L 0 = (q : Int) then some h.choose else none
theorem isoL_none {q : Nat} (h : ∀ L, Hom n xss yss L → fz L 0 ≠ (q : Int)) : isoL xss yss n q = none := by
  unfold isoL
  rw [dif_neg]
  rintro ⟨L, h1, h2⟩
  exact h L h1 h2
theorem isoL_hom {q : Nat} {L : List Int} (h : isoL xss yss n q = some L) : Hom n xss yss L ∧ fz L 0 = (q : Int) := by
  unfold isoL at h
  split at h
  · rename_i hx
    injection h with h
    subst h
    exact hx.choose_spec
  · cases h
theorem isoL_some {q : Nat} {L : List Int} (hs : okSys n xss = true) (hl : xss.length = yss.length) (hn : 0 < n) (hall : (orbL xss n ((0 : Nat) : Int)).length = n) (h : Hom n xss yss L) (h0 : fz L 0 = (q : Int)) : isoL xss yss n q = some L := by
  have hx : ∃ L, Hom n xss yss L ∧ fz L 0 = (q : Int) := ⟨L, h, h0⟩
  unfold isoL
  rw [dif_pos hx]
  have := hx.choose_spec
  rw [hom_uniq hs hl hn hall this.1 h (by rw [this.2, h0])]
theorem isoL_len {q : Nat} {L : List Int} (h : isoL xss yss n q = some L) : L.length = n := (isoL_hom h).1.len

/-- What the list of images holds while flags are gone through in the order O: at the place i, when j moves are done. -/
structure HInv (n : Nat) (xss yss : List (List Int)) (q : Nat) (O : List Int) (i j : Nat) (D : List Int) : Prop where
  len : D.length = n
  val : ∀ y : Nat, y < n → D[y]? = some (-1) ∨ ∃ v : Nat, v < n ∧ D[y]? = some (v : Int)
  hd : D[0]? = some (q : Int)
  forced : ∀ L, Hom n xss yss L → fz L 0 = (q : Int) → ∀ y v : Nat, D[y]? = some (v : Int) → fz L y = v
  done : ∀ (a : Nat) (x : Int) (b : Nat) (g h : List Int), a < i ∨ (a = i ∧ b < j) → O[a]? = some x → xss[b]? = some g → yss[b]? = some h → 0 ≤ fz D x ∧ 0 ≤ fz D (fz g x) ∧ fz D (fz g x) = fz h (fz D x)
theorem hinv_start {q : Nat} {O : List Int} (hn : 0 < n) (hq : q < n) : HInv n xss yss q O 0 0 ((List.replicate n (-1)).set 0 (q : Int)) := by
  refine ⟨by simp, fun y hy => ?_, by simp [hn], fun L _ h0 y v hv => ?_, fun a x b g h hab => absurd hab (by omega)⟩
  · by_cases e : 0 = y
    · subst e
      exact .inr ⟨q, hq, by simp [hn]⟩
    · exact .inl (by rw [List.getElem?_set_ne e]; simp [hy])
  · by_cases e : 0 = y
    · subst e
      rw [List.getElem?_set_self (by simpa using hn)] at hv
      injection hv with hv
      rw [← hv]
      exact h0
    · rw [List.getElem?_set_ne e] at hv
      obtain ⟨h1, h2⟩ := List.getElem?_eq_some_iff.1 hv
      rw [List.getElem_replicate] at h2
      omega
theorem hinv_next {q i : Nat} {O D : List Int} (h : HInv n xss yss q O i xss.length D) : HInv n xss yss q O (i + 1) 0 D :=
  ⟨h.len, h.val, h.hd, h.forced, fun a x b g h' hab hx hg hh => h.done a x b g h' (by
    have := (List.getElem?_eq_some_iff.1 hg).1
    omega) hx hg hh⟩
/-- Each flag but the first one has one before it from which a move leads to it. -/
theorem parent {p x : Int} {i a : Nat} {O : List Int} (hs : okSys n xss = true) (ho : OInv xss n p i O) (hall : ∀ y : Nat, y < n → (y : Int) ∈ O) (hx : O[a]? = some x) (ha : 0 < a) : ∃ b y g, b < a ∧ O[b]? = some y ∧ g ∈ xss ∧ fz g y = x := by
  obtain ⟨d, hd⟩ := ho.ex x (List.mem_of_getElem? hx)
  have hne : x ≠ p := fun e => by
    subst e
    have h1 := (List.getElem?_inj (List.getElem?_eq_some_iff.1 hx).1 ho.ps.2).1 (hx.trans ho.hd.symm)
    omega
  obtain ⟨g, hg, y, m, he, hy, hm⟩ := isD_pred hd hne
  have hr := wn_in hs ho m hy.1
  obtain ⟨b, hb, hbe⟩ := List.mem_iff_getElem.1 (show y ∈ O from by
    have := hall y.toNat (by omega)
    rwa [show ((y.toNat : Nat) : Int) = y by omega] at this)
  have hbs : O[b]? = some y := by rw [List.getElem?_eq_getElem hb, hbe]
  refine ⟨b, y, g, ?_, hbs, hg, he⟩
  rcases Nat.lt_or_ge b a with h1 | h1
  · exact h1
  · have := ho.mono a b x y d m h1 hx hbs hd hy
    omega
theorem fz_nn {D : List Int} {y : Nat} (h : 0 ≤ fz D y) (hl : y < D.length) : ∃ v : Nat, D[y]? = some (v : Int) := by
  obtain ⟨v, hv⟩ := Int.eq_ofNat_of_zero_le h
  refine ⟨v, ?_⟩
  rw [← hv]
  have := fz_some (n := D.length) rfl (x := (y : Int)) (by omega) (by omega)
  simpa using this
/-- The flag whose turn it is has its image. -/
theorem hinv_at {p q i k j : Nat} {O D : List Int} (hs : okSys n xss = true) (hl : xss.length = yss.length) (ho : OInv xss n ((0 : Nat) : Int) k O) (hall : ∀ y : Nat, y < n → (y : Int) ∈ O) (h : HInv n xss yss q O i j D) (hx : O[i]? = some (p : Int)) (hp : p < n) : ∃ v : Nat, v < n ∧ D[p]? = some (v : Int) := by
  have key : 0 ≤ fz D p := by
    rcases Nat.eq_zero_or_pos i with rfl | hi
    · have h1 := ho.hd
      rw [hx] at h1
      injection h1 with h1
      have h2 : p = 0 := by omega
      subst h2
      have := fz_at h.hd
      rw [this]
      omega
    · obtain ⟨b, y, g, hb, hby, hg, he⟩ := parent hs ho hall hx hi
      obtain ⟨c, hc, hce⟩ := List.mem_iff_getElem.1 hg
      have := (h.done b y c g yss[c] (.inl hb) hby (by rw [List.getElem?_eq_getElem hc, hce]) (List.getElem?_eq_getElem (by omega))).2.1
      rw [he] at this
      exact this
  obtain ⟨v, hv⟩ := fz_nn key (by rw [h.len]; exact hp)
  rcases h.val p hp with h1 | ⟨u, hu, h1⟩
  · rw [hv] at h1; injection h1 with h1; omega
  · exact ⟨u, hu, h1⟩
/-- A move that leads to a flag with no image yet. -/
theorem hinv_new {p q i j r m v : Nat} {O D g h : List Int} (hI : HInv n xss yss q O i j D) (hx : O[i]? = some (p : Int)) (hg : xss[j]? = some g) (hh : yss[j]? = some h) (hpn : p < n) (hr : fz g p = (r : Int)) (hrn : r < n) (hv : D[p]? = some (v : Int)) (hm : fz h v = (m : Int)) (hmn : m < n) (hD : D[r]? = some (-1)) :
    HInv n xss yss q O i (j + 1) (D.set r (m : Int)) := by
  have hpr : r ≠ p := fun e => by subst e; rw [hD] at hv; injection hv with hv; omega
  have hfz : ∀ x : Int, 0 ≤ fz D x → x.toNat ≠ r := fun x h0 e => by
    unfold fz at h0
    rw [List.getD_eq_getElem?_getD, e, hD] at h0
    exact absurd h0 (by decide)
  have hkeep : ∀ x : Int, x.toNat ≠ r → fz (D.set r (m : Int)) x = fz D x := fun x hx => by
    unfold fz
    rw [List.getD_eq_getElem?_getD, List.getD_eq_getElem?_getD, List.getElem?_set_ne (Ne.symm hx)]
  refine ⟨by simp [hI.len], fun y hy => ?_, ?_, fun L hL h0 y w hw => ?_, fun a x b g' h' hab hax hg' hh' => ?_⟩
  · by_cases e : r = y
    · subst e
      exact .inr ⟨m, hmn, List.getElem?_set_self (by rw [hI.len]; exact hy)⟩
    · rw [List.getElem?_set_ne e]; exact hI.val y hy
  · by_cases e : r = 0
    · subst e
      have := hI.hd
      rw [hD] at this
      injection this with this
      omega
    · rw [List.getElem?_set_ne e]; exact hI.hd
  · by_cases e : r = y
    · subst e
      rw [List.getElem?_set_self (by rw [hI.len]; exact hrn)] at hw
      injection hw with hw
      rw [← hw, ← hr, ← hm, ← hI.forced L hL h0 p v hv]
      exact hL.mv j g h hg hh p hpn
    · rw [List.getElem?_set_ne e] at hw
      exact hI.forced L hL h0 y w hw
  · by_cases hlast : a = i ∧ b = j
    · obtain ⟨rfl, rfl⟩ := hlast
      rw [hx] at hax; injection hax with hax; subst hax
      rw [hg] at hg'; injection hg' with hg'; subst hg'
      rw [hh] at hh'; injection hh' with hh'; subst hh'
      have e1 : fz D p = (v : Int) := fz_at hv
      have e2 : fz (D.set r (m : Int)) (p : Int) = (v : Int) := by rw [hkeep _ (by simpa using hpr.symm), e1]
      have e3 : fz (D.set r (m : Int)) (r : Int) = (m : Int) := fz_at (List.getElem?_set_self (by rw [hI.len]; exact hrn))
      rw [hr, e2, e3, hm]
      exact ⟨by omega, by omega, rfl⟩
    · obtain ⟨h1, h2, h3⟩ := hI.done a x b g' h' (by omega) hax hg' hh'
      rw [hkeep _ (hfz _ h1), hkeep _ (hfz _ h2)]
      exact ⟨h1, h2, h3⟩
/-- A move that leads to a flag with the image that it should have. -/
theorem hinv_same {p q i j r m v : Nat} {O D g h : List Int} (hI : HInv n xss yss q O i j D) (hx : O[i]? = some (p : Int)) (hg : xss[j]? = some g) (hh : yss[j]? = some h) (hr : fz g p = (r : Int)) (hv : D[p]? = some (v : Int)) (hm : fz h v = (m : Int)) (hD : D[r]? = some (m : Int)) :
    HInv n xss yss q O i (j + 1) D := by
  refine ⟨hI.len, hI.val, hI.hd, hI.forced, fun a x b g' h' hab hax hg' hh' => ?_⟩
  by_cases hlast : a = i ∧ b = j
  · obtain ⟨rfl, rfl⟩ := hlast
    rw [hx] at hax; injection hax with hax; subst hax
    rw [hg] at hg'; injection hg' with hg'; subst hg'
    rw [hh] at hh'; injection hh' with hh'; subst hh'
    have e1 : fz D p = (v : Int) := fz_at hv
    have e3 : fz D (r : Int) = (m : Int) := fz_at hD
    rw [hr, e1, e3, hm]
    exact ⟨by omega, by omega, rfl⟩
  · exact hI.done a x b g' h' (by omega) hax hg' hh'
/-- A move that leads to a flag with another image: there is none. -/
theorem hinv_fail {p q i j r m v u : Nat} {O D g h : List Int} (hI : HInv n xss yss q O i j D) (hg : xss[j]? = some g) (hh : yss[j]? = some h) (hpn : p < n) (hr : fz g p = (r : Int)) (hv : D[p]? = some (v : Int)) (hm : fz h v = (m : Int)) (hD : D[r]? = some (u : Int)) (hne : u ≠ m) : isoL xss yss n q = none := by
  refine isoL_none fun L hL h0 => ?_
  have h1 := hI.forced L hL h0 p v hv
  have h2 := hI.forced L hL h0 r u hD
  have h3 := hL.mv j g h hg hh p hpn
  rw [h1, hr, h2, hm] at h3
  omega
theorem hinv_done {q i : Nat} {O D : List Int} (hs : okSys n xss = true) (hl : xss.length = yss.length) (hn : 0 < n) (hpos : 0 < xss.length) (hall : (orbL xss n ((0 : Nat) : Int)).length = n) (hin : ∀ y : Nat, y < n → (y : Int) ∈ O) (hI : HInv n xss yss q O i 0 D) (hi : O.length ≤ i) : isoL xss yss n q = some D := by
  have hd : ∀ (b : Nat) (g h : List Int), xss[b]? = some g → yss[b]? = some h → ∀ k : Nat, k < n → 0 ≤ fz D k ∧ fz D (fz g k) = fz h (fz D k) := fun b g h hg hh k hk => by
    obtain ⟨a, ha, hae⟩ := List.mem_iff_getElem.1 (hin k hk)
    have := hI.done a (k : Int) b g h (.inl (by omega)) (by rw [List.getElem?_eq_getElem ha, hae]) hg hh
    exact ⟨this.1, this.2.2⟩
  refine isoL_some hs hl hn hall ⟨hI.len, fun k hk => ?_, fun b g h hg hh k hk => (hd b g h hg hh k hk).2⟩ (fz_at hI.hd)
  have h0 := (hd 0 xss[0] yss[0] (List.getElem?_eq_getElem hpos) (List.getElem?_eq_getElem (by omega)) k hk).1
  rcases hI.val k hk with h1 | ⟨v, hv, h1⟩
  · have := fz_at h1; omega
  · have := fz_at h1; omega
end
end Go.Proofs.Ytmgoaabeopnopaa
/- The first isomorphism, and all automorphisms. Plain facts. -/
namespace Go.Proofs.Ytmgoaabeopnopaa
open Go.RowKit

/-- The first isomorphism among those that give the flag 0 a flag below k. -/
noncomputable def fstI (xss yss : List (List Int)) (n : Nat) : Nat → Option (List Int)
  | 0 => none
  | k + 1 => match fstI xss yss n k with
    | some L => some L
    | none => isoL xss yss n k
theorem fstI_none {xss yss : List (List Int)} {n k : Nat} (h : fstI xss yss n k = none) (h2 : isoL xss yss n k = none) : fstI xss yss n (k + 1) = none := by
  rw [fstI, h, h2]
theorem fstI_some {xss yss : List (List Int)} {n k : Nat} {L : List Int} (h : fstI xss yss n k = none) (h2 : isoL xss yss n k = some L) : ∀ {m : Nat}, k < m → fstI xss yss n m = some L := by
  intro m
  induction m with
  | zero => intro h; omega
  | succ m ih =>
    intro hm
    rcases Nat.lt_succ_iff_lt_or_eq.1 hm with h3 | rfl
    · rw [fstI, ih h3]
    · rw [fstI, h, h2]
theorem fstI_iff {xss yss : List (List Int)} {n : Nat} : ∀ {k : Nat} {L : List Int}, fstI xss yss n k = some L → ∃ q, q < k ∧ isoL xss yss n q = some L
  | 0, L, h => by cases h
  | k + 1, L, h => by
    rw [fstI] at h
    split at h
    · rename_i L' h1
      injection h with h
      subst h
      obtain ⟨q, hq, h2⟩ := fstI_iff h1
      exact ⟨q, by omega, h2⟩
    · exact ⟨k, by omega, h⟩
theorem fstI_no {xss yss : List (List Int)} {n : Nat} : ∀ {k : Nat}, fstI xss yss n k = none → ∀ q, q < k → isoL xss yss n q = none
  | 0, _, q, hq => by omega
  | k + 1, h, q, hq => by
    rw [fstI] at h
    split at h
    · cases h
    · rename_i h1
      rcases Nat.lt_succ_iff_lt_or_eq.1 hq with h3 | rfl
      · exact fstI_no h1 q h3
      · exact h
/-- The isomorphism from one maniplex to another one that gives the flag 0 the least flag. -/
noncomputable def firO (xss yss : List (List Int)) : Option (List Int) := if xss.length = yss.length ∧ flN xss = flN yss then fstI xss yss (flN xss) (flN xss) else none
/-- The automorphisms that give the flag 0 a flag below k. -/
noncomputable def autTo (xss : List (List Int)) (n : Nat) : Nat → List (List Int)
  | 0 => []
  | k + 1 => match isoL xss xss n k with
    | some L => autTo xss n k ++ [L]
    | none => autTo xss n k
noncomputable def autL (xss : List (List Int)) : List (List Int) := autTo xss (flN xss) (flN xss)
theorem autTo_some {xss : List (List Int)} {n k : Nat} {L : List Int} (h : isoL xss xss n k = some L) : autTo xss n (k + 1) = autTo xss n k ++ [L] := by rw [autTo, h]
theorem autTo_none {xss : List (List Int)} {n k : Nat} (h : isoL xss xss n k = none) : autTo xss n (k + 1) = autTo xss n k := by rw [autTo, h]
theorem autTo_mem {xss : List (List Int)} {n : Nat} : ∀ {k : Nat} {L : List Int}, L ∈ autTo xss n k → ∃ q, q < k ∧ isoL xss xss n q = some L
  | 0, L, h => by simp [autTo] at h
  | k + 1, L, h => by
    rw [autTo] at h
    split at h
    · rename_i L' h1
      rcases List.mem_append.1 h with h2 | h2
      · obtain ⟨q, hq, h3⟩ := autTo_mem h2
        exact ⟨q, by omega, h3⟩
      · simp at h2
        subst h2
        exact ⟨k, by omega, h1⟩
    · obtain ⟨q, hq, h3⟩ := autTo_mem h
      exact ⟨q, by omega, h3⟩
theorem autTo_in {xss : List (List Int)} {n : Nat} {L : List Int} : ∀ {k q : Nat}, q < k → isoL xss xss n q = some L → L ∈ autTo xss n k
  | 0, q, h, _ => by omega
  | k + 1, q, h, hq => by
    rcases Nat.lt_succ_iff_lt_or_eq.1 h with h3 | rfl
    · have := autTo_in h3 hq
      rw [autTo]
      split
      · exact List.mem_append.2 (.inl this)
      · exact this
    · rw [autTo_some hq]; simp
theorem autTo_len {xss : List (List Int)} {n : Nat} : ∀ k, (autTo xss n k).length ≤ k
  | 0 => by simp [autTo]
  | k + 1 => by
    have := autTo_len (xss := xss) (n := n) k
    rw [autTo]
    split
    · simp; omega
    · omega
theorem autL_len (xss : List (List Int)) : (autL xss).length ≤ flN xss := autTo_len _
theorem autTo_rows {xss : List (List Int)} {n k : Nat} : ∀ L ∈ autTo xss n k, L.length = n := fun L h => by
  obtain ⟨q, _, h1⟩ := autTo_mem h
  exact isoL_len h1
theorem autL_rows {xss : List (List Int)} : ∀ L ∈ autL xss, L.length = flN xss := autTo_rows

/-! What the functions answer. -/
noncomputable def ioR (xss yss : List (List Int)) : List Int := if okMan xss && okMan yss then (firO xss yss).getD [] else []
noncomputable def ioC (xss yss : List (List Int)) : Int := if okMan xss && okMan yss then (if (firO xss yss).isSome then 0 else 4) else 1
noncomputable def aiB (xss yss : List (List Int)) : Bool := okMan xss && okMan yss && (firO xss yss).isSome
noncomputable def aiC (xss yss : List (List Int)) : Int := if okMan xss && okMan yss then 0 else 1
noncomputable def atR (xss : List (List Int)) (f : Int) : List Int := if okMan xss then (if flagB (flN xss) f then (isoL xss xss (flN xss) f.toNat).getD [] else []) else []
noncomputable def atC (xss : List (List Int)) (f : Int) : Int := if okMan xss then (if flagB (flN xss) f then (if (isoL xss xss (flN xss) f.toNat).isSome then 0 else 4) else 2) else 1
noncomputable def auR (xss : List (List Int)) : List (List Int) := if okMan xss then autL xss else []
noncomputable def auC (xss : List (List Int)) : Int := if okMan xss then 0 else 1
theorem firO_len {xss yss : List (List Int)} {L : List Int} (h : firO xss yss = some L) : L.length = flN xss := by
  unfold firO at h
  split at h
  · obtain ⟨q, _, h1⟩ := fstI_iff h
    exact isoL_len h1
  · cases h
theorem okMan_f4 {xss : List (List Int)} (h : okMan xss = true) : flN xss ≤ 400 := (okMan_iff.1 h).f4
theorem ioR_le (xss yss : List (List Int)) : (ioR xss yss).length ≤ 1048576 := by
  unfold ioR
  split
  · rename_i h
    simp only [Bool.and_eq_true] at h
    have := okMan_f4 h.1
    cases ho : firO xss yss with
    | none => simp
    | some L =>
      have := firO_len ho
      simp; omega
  · simp
theorem atR_le (xss : List (List Int)) (f : Int) : (atR xss f).length ≤ 1048576 := by
  unfold atR
  split
  · rename_i h
    have := okMan_f4 h
    split
    · cases ho : isoL xss xss (flN xss) f.toNat with
      | none => simp
      | some L =>
        have := isoL_len ho
        simp; omega
    · simp
  · simp
theorem auR_le (xss : List (List Int)) : (auR xss).length ≤ 1048576 ∧ ∀ xs ∈ auR xss, (xs.length : Int) ≤ 1048576 := by
  unfold auR
  split
  · rename_i h
    have h4 := okMan_f4 h
    have := autL_len xss
    exact ⟨by omega, fun xs hx => by have := autL_rows xs hx; omega⟩
  · simp
end Go.Proofs.Ytmgoaabeopnopaa
/- impl.isomorphismTo. -/
namespace Go.Proofs.Ytmgoaabeopnopaa
open Go.RowKit

/-- What a search for an isomorphism answers: a list of its own, or nil. -/
def IsoRet (w : World) (n : Nat) (o : Option (List Int)) (e : Ending) (w' : World) : Prop :=
  Below w.heap.size w w' ∧ ((o = none ∧ e = .returned (.slice none 0 0)) ∨
    ∃ L g c, o = some L ∧ e = .returned (.slice (some ⟨g, 0, none⟩) n c) ∧ w'.ownsRow w.heap.size 2 1 (.slice (some ⟨g, 0, none⟩) n c) n (ints L))
abbrev hmPs (h1 : Nat) (m : Value) (h2 : Nat) (k : Value) (g n c : Nat) (D : List Int) (A : Option Addr) (co : Nat) (O : List Int) : List Pc :=
  [.blk h1 #[m] 27, .blk h2 #[k] 27, .own 2 (some ⟨g, 0, none⟩) n c (ints D), .own 2 A n co (ints O)]
section
variable {w0 w : World} {h1 h2 g n c co : Nat} {m k : Value} {D O : List Int} {A : Option Addr}
theorem hm_set (h : St w0 w (hmPs h1 m h2 k g n c D A co O)) (q : Nat) (x : Int) : St w0 (w.setCell ⟨g, q, none⟩ (.int .i64 x)) (hmPs h1 m h2 k g n c (D.set q x) A co O) := by
  have := h.store (i := 2) rfl q (.int .i64 x)
  rw [ints_set] at this
  exact this
theorem hm3_set {T1 : TypeId} (h : St w0 w [.blk h1 #[m] T1, .blk h2 #[k] T1, .own 2 (some ⟨g, 0, none⟩) n c (ints D)]) (x : Int) : St w0 (w.setCell ⟨g, 0, none⟩ (.int .i64 x)) [.blk h1 #[m] T1, .blk h2 #[k] T1, .own 2 (some ⟨g, 0, none⟩) n c (ints (D.set 0 x))] := by
  have := h.store (i := 2) rfl 0 (.int .i64 x)
  rw [ints_set] at this
  exact this
end

set_option maxHeartbeats 6400000 in
set_option maxRecDepth 100000 in
theorem iisoTo_any {b o c N b1 o1 c1 n c0 q : Nat} {A0 : Option Addr} {xss yss : List (List Int)} (w : World) (hx : xss.length = N) (ha : RdSS w (some ⟨b, o, none⟩) xss) (hy : yss.length = N) (hb : RdSS w (some ⟨b1, o1, none⟩) yss) (hN : N ≤ 1048576) (hsys : okSys n xss = true) (hsy : okSys n yss = true) (h0 : w.cell? ⟨b, o, none⟩ = some (.slice A0 n c0)) (hpos : 0 < N) (hq : q < n) (hall : (orbL xss n ((0 : Nat) : Int)).length = n) :
    Calls Try.prog 125 #[.agg #[.slice (some ⟨b, o, none⟩) N c], .agg #[.slice (some ⟨b1, o1, none⟩) N c1], .int .i64 q] w (IsoRet w n (isoL xss yss n q)) := by
  have hn : 0 < n := by omega
  have HX := Lib.hid hx
  have HY := Lib.hid hy
  have HA := Lib.hid ha
  have HB := Lib.hid hb
  have HS := Lib.hid hsys
  have HSY := Lib.hid hsy
  have HC0 := Lib.hid h0
  have HALL := Lib.hid hall
  have hn4 := (sys_parts hsys).2.1
  have hn4' : n ≤ 400 := by omega
  have HXY := Lib.hid (hx.trans hy.symm)
  have HPX := Lib.hid (show 0 < xss.length by omega)
  obtain ⟨j0, hj0, ho⟩ := oinv_orb hsys hn
  have HO := Lib.hid ho
  have HIN := Lib.hid (show ∀ y : Nat, y < n → (y : Int) ∈ orbL xss n ((0 : Nat) : Int) from fun y hy => mem_all hall (orb_passed hsys hn) hy)
  have R0 := Lib.hid (hinv_start (xss := xss) (yss := yss) (O := orbL xss n ((0 : Nat) : Int)) hn hq)
  have st0 := (((St.start w).addBlk #[.slice (some ⟨b, o, none⟩) N c] 27).addBlk #[.slice (some ⟨b1, o1, none⟩) N c1] 27).addLit1 (.int .i64 (-1)) 2
  simp at st0
  have S0 := Lib.hid st0
  have hbc := (st0.blk (i := 0) rfl).cell (i := 0) rfl
  clear st0 hx ha hy hb hsys hsy h0 hall ho hj0
  go_enter Try.func125, Try.ntmps125
  go_wp2
  go_step3
  go_wp2_with fail
  refine (flags_bel _ hpos (cell_be HC0.out S0.out.below)).mono ?_
  rintro e w1 ⟨rfl, bel⟩
  have st1 := S0.out.go bel
  have S1 := Lib.hid st1
  have hlit := own_cell (st1.own (i := 2) rfl) (k := 0) rfl
  clear bel st1 hbc
  go_wp2_with fail
  refine (repeat_any (m := n) _ hlit (by omega) (by omega)).mono ?_
  rintro e w2 ⟨A2, c2, rfl, own, bel⟩
  rw [List.length_replicate] at own
  obtain ⟨g, rfl⟩ := own_shape own hn
  have st2 := ((S1.out.addOwn bel own (Nat.le_refl _)).drop 2)
  have S2 := Lib.hid st2
  have hfr := (st2.own (i := 2) rfl).frozenAt 0
  have hcz := own_cell (st2.own (i := 2) rfl) (show (ints (List.replicate n (-1)))[0]? = some (.int .i64 (-1)) by simp [hn])
  rw [List.length_replicate]
  clear own bel st2 hlit S1
  have S3 := Lib.hid (hm3_set S2.out (q : Int))
  have hb3 := (S3.out.blk (i := 0) rfl).cell (i := 0) rfl
  go_wp2
  go_step3
  go_wp2_with fail
  refine (flagsFrom_any _ HX.out (HA.out.keep S3.out.below) hN HS.out hpos hn).mono ?_
  rintro e w3 ⟨A3, c3, rfl, own, bel⟩
  rw [HALL.out] at own ⊢
  obtain ⟨g3, rfl⟩ := own_shape own hn
  have S4 := Lib.hid (show St w w3 (hmPs w.heap.size (.slice (some ⟨b, o, none⟩) N c) (w.heap.size + 1) (.slice (some ⟨b1, o1, none⟩) N c1) g n c2 ((List.replicate n (-1)).set 0 (q : Int)) (some ⟨g3, 0, none⟩) c3 (orbL xss n ((0 : Nat) : Int))) from S3.out.addOwn bel own (Nat.le_refl _))
  clear own bel S2 S3 hb3
  go_wp2
  clear hfr hcz
  go_loopw [7, 24] (fun im i wr => ∃ (i' : Nat) (D : List Int), im = .slice (some ⟨g, 0, none⟩) n c2 ∧ i' ≤ n ∧ i = .int .i64 i' ∧ St w wr (hmPs w.heap.size (.slice (some ⟨b, o, none⟩) N c) (w.heap.size + 1) (.slice (some ⟨b1, o1, none⟩) N c1) g n c2 D (some ⟨g3, 0, none⟩) c3 (orbL xss n ((0 : Nat) : Int))) ∧ HInv n xss yss q (orbL xss n ((0 : Nat) : Int)) i' 0 D) (fun _ i _ => n - (intOf i).toNat)
  case atStart => exact ⟨0, _, rfl, Nat.zero_le _, rfl, S4.out, R0.out⟩
  case round =>
    obtain ⟨i, D, rfl, hi, rfl, st, ri⟩ := hrel
    have S := Lib.hid st
    have RI := Lib.hid ri
    have hbc := (st.blk (i := 0) rfl).cell (i := 0) rfl
    clear st ri S4 R0
    by_cases hlt : i < n
    · obtain ⟨p, hp, hpn⟩ := orb_at HS.out hn (show i < (orbL xss n ((0 : Nat) : Int)).length by rw [HALL.out]; omega)
      have hcx := own_cell (S.out.own (i := 3) rfl) (show (ints (orbL xss n ((0 : Nat) : Int)))[i]? = some (.int .i64 p) by rw [ints, List.getElem?_map, hp]; rfl)
      have HP := Lib.hid hp
      clear hp
      go_wp2
      clear hcx hbc
      go_loopw [7, 31] (fun im v wi => ∃ (j : Nat) (D : List Int), im = .slice (some ⟨g, 0, none⟩) n c2 ∧ j ≤ N ∧ v = .int .i64 j ∧ St w wi (hmPs w.heap.size (.slice (some ⟨b, o, none⟩) N c) (w.heap.size + 1) (.slice (some ⟨b1, o1, none⟩) N c1) g n c2 D (some ⟨g3, 0, none⟩) c3 (orbL xss n ((0 : Nat) : Int))) ∧ HInv n xss yss q (orbL xss n ((0 : Nat) : Int)) i j D) (fun _ v _ => N - (intOf v).toNat)
      case atStart => exact ⟨0, D, rfl, Nat.zero_le _, rfl, S.out, RI.out⟩
      case round =>
        obtain ⟨j, D2, rfl, hj, rfl, st2, ri2⟩ := hrel
        have S2 := Lib.hid st2
        have R2 := Lib.hid ri2
        clear st2 ri2 S RI
        by_cases hjl : j < N
        · obtain ⟨b3, o3, A4, c4, gg, he, hg, hc, hrd, hms⟩ := (HA.out.keep S2.out.below).row (k := j) (by rw [HX.out]; exact hjl)
          obtain ⟨rfl, rfl⟩ : b = b3 ∧ o = o3 := by simpa using he
          have hlg := sys_len HS.out hg
          obtain ⟨l, hl⟩ : ∃ l, gg.length = l := ⟨_, rfl⟩
          rw [hl] at hc hms hlg
          obtain ⟨b4, o4, y, rfl, hgy, hcy⟩ := hrd.int (k := p) (by omega)
          obtain ⟨r, rfl, hr0⟩ := sys_at HS.out hg hgy
          have hrn : r < n := by omega
          obtain ⟨v, hvn, hDv⟩ := hinv_at HS.out HXY.out HO.out HIN.out R2.out HP.out hpn
          have hcv := own_cell (S2.out.own (i := 2) rfl) (show (ints D2)[p]? = some (.int .i64 v) by simp [hDv])
          obtain ⟨b5, o5, A5, c5, hh, he2, hgh, hch, hrh, hmh⟩ := (HB.out.keep S2.out.below).row (k := j) (by rw [HY.out]; exact hjl)
          obtain ⟨rfl, rfl⟩ : b1 = b5 ∧ o1 = o5 := by simpa using he2
          have hlh := sys_len HSY.out hgh
          obtain ⟨l2, hl2⟩ : ∃ l, hh.length = l := ⟨_, rfl⟩
          rw [hl2] at hch hmh hlh
          obtain ⟨b6, o6, y2, rfl, hhy, hcm⟩ := hrh.int (k := v) (by omega)
          obtain ⟨m, rfl, hm0⟩ := sys_at HSY.out hgh hhy
          have hmn : m < n := by omega
          have hbk := (S2.out.blk (i := 1) rfl).cell (i := 0) rfl
          have FR := Lib.hid (show fz gg p = (r : Int) from fz_at hgy)
          have FM := Lib.hid (show fz hh v = (m : Int) from fz_at hhy)
          have HG := Lib.hid hg
          have HH := Lib.hid hgh
          have DV := Lib.hid hDv
          clear he he2 hgy hhy hrd hrh hg hgh hDv
          rcases R2.out.val r hrn with hDr | ⟨u, hun, hDr⟩
          · have hcr := own_cell (S2.out.own (i := 2) rfl) (show (ints D2)[r]? = some (.int .i64 (-1)) by simp [hDr])
            have hfr := (S2.out.own (i := 2) rfl).frozenAt r
            have R3 := Lib.hid (hinv_new R2.out HP.out HG.out HH.out hpn FR.out hrn DV.out FM.out hmn hDr)
            clear hDr
            go_wp2
            go_quiet (fail)
            have S3 := Lib.hid (S2.out.go (below_drewN (Below.refl _ _) nq))
            have S5 := Lib.hid (hm_set S3.out r (m : Int))
            have hcr2 := own_cell (S5.out.own (i := 2) rfl) (show (ints (D2.set r (m : Int)))[r]? = some (.int .i64 m) by
              have := (List.getElem?_eq_some_iff.1 (show (D2.set r (m : Int))[r]? = some (m : Int) from List.getElem?_set_self (by rw [R2.out.len]; exact hrn)))
              simp [R2.out.len, hrn])
            go_wp2
            go_roundw
            case rel => exact ⟨j + 1, _, rfl, by omega, by go_num, S5.out, R3.out⟩
            case measure => simp [intOf]; omega
          · have hcr := own_cell (S2.out.own (i := 2) rfl) (show (ints D2)[r]? = some (.int .i64 u) by simp [hDr])
            by_cases hum : u = m
            · subst hum
              have R3 := Lib.hid (hinv_same R2.out HP.out HG.out HH.out FR.out DV.out FM.out hDr)
              clear hDr
              go_wp2
              go_quiet (fail)
              have S3 := Lib.hid (S2.out.go (below_drewN (Below.refl _ _) nq))
              go_wp2
              go_roundw
              case rel => exact ⟨j + 1, _, rfl, by omega, by go_num, S3.out, R3.out⟩
              case measure => simp [intOf]; omega
            · have NO := Lib.hid (hinv_fail R2.out HG.out HH.out hpn FR.out DV.out FM.out hDr hum)
              clear hDr
              go_wp2
              go_quiet (fail)
              have S3 := Lib.hid (S2.out.go (below_drewN (Below.refl _ _) nq))
              go_wp2
              try rw [Exit.noGoto_ret]
              go_ret
              exact ⟨S3.out.below, .inl ⟨NO.out, rfl⟩⟩
        · have h := R2.out
          rw [show j = xss.length by rw [HX.out]; omega] at h
          have R3 := Lib.hid (hinv_next h)
          clear h
          go_wp2
          go_roundw
          case rel => exact ⟨i + 1, D2, rfl, by omega, by go_num, S2.out, R3.out⟩
          case measure => simp [intOf]; omega
    · have hD := hinv_done HS.out HXY.out hn HPX.out HALL.out HIN.out RI.out (by rw [HALL.out]; omega)
      have HD := Lib.hid hD
      clear hD
      go_wp2
      try rw [Exit.noGoto_ret]
      go_ret
      exact ⟨S.out.below, .inr ⟨D, g, c2, HD.out, rfl, S.out.own (i := 2) rfl⟩⟩
end Go.Proofs.Ytmgoaabeopnopaa
/- spec.l06Map. -/
namespace Go.Proofs.Ytmgoaabeopnopaa
open Go.RowKit

/-- What the spec's search answers: a list of its own and true, or nil and false. -/
def IsoRetB (w : World) (n : Nat) (o : Option (List Int)) (e : Ending) (w' : World) : Prop :=
  Below w.heap.size w w' ∧ ((o = none ∧ e = .returned (.tuple #[.slice none 0 0, .bool false])) ∨
    ∃ L g c, o = some L ∧ e = .returned (.tuple #[.slice (some ⟨g, 0, none⟩) n c, .bool true]) ∧ w'.ownsRow w.heap.size 2 1 (.slice (some ⟨g, 0, none⟩) n c) n (ints L))
section
variable {xss yss : List (List Int)} {n : Nat}
/-- What the lists of images and of reached flags hold on the way. -/
structure SInv (n : Nat) (xss yss : List (List Int)) (q i j : Nat) (O D : List Int) : Prop where
  hI : HInv n xss yss q O i j D
  ps : Passed n O
  on : ∀ y v : Nat, D[y]? = some (v : Int) → (y : Int) ∈ O
  off : ∀ y : Nat, (y : Int) ∈ O → ∃ v : Nat, v < n ∧ D[y]? = some (v : Int)
  z : (0 : Int) ∈ O
theorem HInv.grow {q i j : Nat} {O D : List Int} (h : HInv n xss yss q O i j D) (hi : i < O.length) (r : Int) : HInv n xss yss q (O ++ [r]) i j D :=
  ⟨h.len, h.val, h.hd, h.forced, fun a x b g h' hab hx hg hh => h.done a x b g h' hab (by
    rw [List.getElem?_append_left (by omega)] at hx
    exact hx) hg hh⟩
theorem sinv_start {q : Nat} (hn : 0 < n) (hq : q < n) : SInv n xss yss q 0 0 [0] ((fillL n).set 0 (q : Int)) := by
  have h0 := hinv_start (xss := xss) (yss := yss) (O := [0]) hn hq
  refine ⟨h0, ⟨fun x hx => by simp at hx; subst hx; omega, by simp⟩, fun y v hy => ?_, fun y hy => ?_, by simp⟩
  · by_cases e : 0 = y
    · subst e; simp
    · rw [List.getElem?_set_ne e] at hy
      obtain ⟨h1, h2⟩ := List.getElem?_eq_some_iff.1 hy
      simp [fillL] at h2
      try omega
  · simp at hy
    subst hy
    exact ⟨q, hq, by simp [fillL, hn]⟩
theorem sinv_at {q i j p : Nat} {O D : List Int} (h : SInv n xss yss q i j O D) (hx : O[i]? = some (p : Int)) : ∃ v : Nat, v < n ∧ D[p]? = some (v : Int) := h.off p (List.mem_of_getElem? hx)
theorem sinv_new {p q i j r m v : Nat} {O D g h : List Int} (hI : SInv n xss yss q i j O D) (hx : O[i]? = some (p : Int)) (hg : xss[j]? = some g) (hh : yss[j]? = some h) (hpn : p < n) (hr : fz g p = (r : Int)) (hrn : r < n) (hv : D[p]? = some (v : Int)) (hm : fz h v = (m : Int)) (hmn : m < n) (hD : D[r]? = some (-1)) :
    SInv n xss yss q i (j + 1) (O ++ [(r : Int)]) (D.set r (m : Int)) := by
  have hi := (List.getElem?_eq_some_iff.1 hx).1
  have hno : ¬ (r : Int) ∈ O := fun h1 => by
    obtain ⟨u, _, hu⟩ := hI.off r h1
    rw [hD] at hu; injection hu with hu; omega
  refine ⟨(hinv_new hI.hI hx hg hh hpn hr hrn hv hm hmn hD).grow hi _, by simpa using ps_push (R := []) (by simpa using hI.ps) (by omega) (by omega) (by simpa using hno), fun y w hw => ?_, fun y hy => ?_, List.mem_append.2 (.inl hI.z)⟩
  · by_cases e : r = y
    · subst e; simp
    · rw [List.getElem?_set_ne e] at hw
      exact List.mem_append.2 (.inl (hI.on y w hw))
  · by_cases e : r = y
    · subst e
      exact ⟨m, hmn, List.getElem?_set_self (by rw [hI.hI.len]; exact hrn)⟩
    · rw [List.getElem?_set_ne e]
      rcases List.mem_append.1 hy with h1 | h1
      · exact hI.off y h1
      · simp at h1; omega
theorem sinv_same {p q i j r m v : Nat} {O D g h : List Int} (hI : SInv n xss yss q i j O D) (hx : O[i]? = some (p : Int)) (hg : xss[j]? = some g) (hh : yss[j]? = some h) (hr : fz g p = (r : Int)) (hv : D[p]? = some (v : Int)) (hm : fz h v = (m : Int)) (hD : D[r]? = some (m : Int)) :
    SInv n xss yss q i (j + 1) O D := ⟨hinv_same hI.hI hx hg hh hr hv hm hD, hI.ps, hI.on, hI.off, hI.z⟩
theorem sinv_next {q i : Nat} {O D : List Int} (h : SInv n xss yss q i xss.length O D) : SInv n xss yss q (i + 1) 0 O D := ⟨hinv_next h.hI, h.ps, h.on, h.off, h.z⟩
theorem sinv_done {q i : Nat} {O D : List Int} (hs : okSys n xss = true) (hl : xss.length = yss.length) (hn : 0 < n) (hpos : 0 < xss.length) (hall : (orbL xss n ((0 : Nat) : Int)).length = n) (hI : SInv n xss yss q i 0 O D) (hi : O.length ≤ i) : isoL xss yss n q = some D := by
  have hcl : Closed xss O := fun g hg x hx => by
    obtain ⟨a, ha, hae⟩ := List.mem_iff_getElem.1 hx
    obtain ⟨b, hb, hbe⟩ := List.mem_iff_getElem.1 hg
    have h1 := (hI.hI.done a x b g yss[b] (.inl (by omega)) (by rw [List.getElem?_eq_getElem ha, hae]) (by rw [List.getElem?_eq_getElem hb, hbe]) (List.getElem?_eq_getElem (by omega))).2.1
    have h2 := hI.ps.1 x hx
    have h3 := sys_img hs hg h2.1 h2.2
    obtain ⟨r, hr⟩ := Int.eq_ofNat_of_zero_le h3.1
    rw [hr] at h1 ⊢
    obtain ⟨v, hv⟩ := fz_nn h1 (by rw [hI.hI.len]; omega)
    exact hI.on r v hv
  refine hinv_done hs hl hn hpos hall (fun y hy => ?_) hI.hI hi
  exact orb_sub (n := n) (q := 0) hcl hI.z _ (mem_all hall (orb_passed hs hn) hy)
end
abbrev hsPs (h1 : Nat) (m : Value) (h2 : Nat) (k : Value) (g n c : Nat) (D : List Int) (A : Option Addr) (mo co : Nat) (O : List Int) : List Pc :=
  [.blk h1 #[m] 27, .blk h2 #[k] 27, .own 2 (some ⟨g, 0, none⟩) n c (ints D), .own 2 A mo co (ints O)]
abbrev hs3Ps (h1 : Nat) (m : Value) (h2 : Nat) (k : Value) (A : Option Addr) (n c : Nat) (D : List Int) : List Pc :=
  [.blk h1 #[m] 27, .blk h2 #[k] 27, .own 2 A n c (ints D)]
section
variable {w0 w : World} {h1 h2 g n c co mo : Nat} {m k : Value} {D O : List Int} {A : Option Addr}
theorem hs_set (h : St w0 w (hsPs h1 m h2 k g n c D A mo co O)) (q : Nat) (x : Int) : St w0 (w.setCell ⟨g, q, none⟩ (.int .i64 x)) (hsPs h1 m h2 k g n c (D.set q x) A mo co O) := by
  have := h.store (i := 2) rfl q (.int .i64 x)
  rw [ints_set] at this
  exact this
theorem hs_len (h : St w0 w (hsPs h1 m h2 k g n c D A mo co O)) : O.length = mo := by
  have := (h.own (i := 3) rfl).1
  simpa using this
end

set_option maxHeartbeats 6400000 in
set_option maxRecDepth 100000 in
theorem siso_any {b o c N b1 o1 c1 n c0 q : Nat} {A0 : Option Addr} {xss yss : List (List Int)} (w : World) (hx : xss.length = N) (ha : RdSS w (some ⟨b, o, none⟩) xss) (hy : yss.length = N) (hb : RdSS w (some ⟨b1, o1, none⟩) yss) (hN : N ≤ 1048576) (hsys : okSys n xss = true) (hsy : okSys n yss = true) (h0 : w.cell? ⟨b, o, none⟩ = some (.slice A0 n c0)) (hpos : 0 < N) (hq : q < n) (hall : (orbL xss n ((0 : Nat) : Int)).length = n) :
    Calls Try.prog 150 #[.agg #[.slice (some ⟨b, o, none⟩) N c], .agg #[.slice (some ⟨b1, o1, none⟩) N c1], .int .i64 q] w (IsoRetB w n (isoL xss yss n q)) := by
  have hn : 0 < n := by omega
  have HX := Lib.hid hx
  have HY := Lib.hid hy
  have HA := Lib.hid ha
  have HB := Lib.hid hb
  have HS := Lib.hid hsys
  have HSY := Lib.hid hsy
  have HC0 := Lib.hid h0
  have HALL := Lib.hid hall
  have hn4 := (sys_parts hsys).2.1
  have hn4' : n ≤ 400 := by omega
  have HXY := Lib.hid (hx.trans hy.symm)
  have HPX := Lib.hid (show 0 < xss.length by omega)
  have R0 := Lib.hid (sinv_start (xss := xss) (yss := yss) hn hq)
  have st0 := (((St.start w).addBlk #[.slice (some ⟨b, o, none⟩) N c] 27).addBlk #[.slice (some ⟨b1, o1, none⟩) N c1] 27).addMade 2
  simp at st0
  have S0 := Lib.hid st0
  clear st0 hx ha hy hb hsys hsy h0 hall
  go_enter Try.func150, Try.ntmps150
  go_wp2
  go_loopw [8, 9] (fun v i wr => ∃ k : Nat, k ≤ n ∧ i = .int .i64 k ∧ ∃ A' c', v = .slice A' k c' ∧ St w wr (hs3Ps w.heap.size (.slice (some ⟨b, o, none⟩) N c) (w.heap.size + 1) (.slice (some ⟨b1, o1, none⟩) N c1) A' k c' (fillL k))) (fun _ i _ => n - (intOf i).toNat)
  case atStart => exact ⟨0, Nat.zero_le _, rfl, _, _, rfl, S0.out⟩
  case round =>
    obtain ⟨k, hk, rfl, A', c', rfl, st⟩ := hrel
    have S := Lib.hid st
    have hbc := (st.blk (i := 0) rfl).cell (i := 0) rfl
    clear st
    go_wp2_with fail
    refine (sFlags_bel wr hpos (cell_be HC0.out S.out.below)).mono ?_
    rintro e w1 ⟨rfl, bel⟩
    have S1 := Lib.hid (S.out.go bel)
    clear bel hbc
    by_cases hlt : k < n
    · have hlo := S1.out.lo
      go_wp2_with (at_builtin; refine wpList_push_at _ rfl _ _ 36 2 rfl Try.underlying36 (.int .i64 0) 8 Try.info2 rfl w.heap.size _ _ _ rfl (S1.out.own (i := 2) rfl) _ rfl rfl (by omega) (by omega) (by omega) ?_)
      intro A3 c3 w3 own3 gr3 hat3
      have S3 := Lib.hid (S1.out.push (i := 2) rfl own3 gr3 hat3)
      clear own3 gr3 hat3
      go_wp2
      go_roundw
      case rel => exact ⟨k + 1, by omega, by go_num, A3, c3, rfl, by simpa [fill_succ, ints, hs3Ps] using S3.out⟩
      case measure => simp [intOf]; omega
    · obtain rfl : k = n := by omega
      obtain ⟨g, rfl⟩ := own_shape (S1.out.own (i := 2) rfl) (by omega)
      have hcell := own_cell (S1.out.own (i := 2) rfl) (show (ints (fillL k))[0]? = some (.int .i64 (-1)) by simp [fillL, hn])
      have hfrz := (S1.out.own (i := 2) rfl).frozenAt 0
      have S2 := Lib.hid ((hm3_set S1.out (q : Int)).addLit1 (.int .i64 0) 2)
      go_wp2
      clear hk hlt hcell hfrz S S1
      have S3 := Lib.hid (show St w _ (hsPs w.heap.size (.slice (some ⟨b, o, none⟩) N c) (w.heap.size + 1) (.slice (some ⟨b1, o1, none⟩) N c1) g k c' ((fillL k).set 0 (q : Int)) (some ⟨w1.heap.size, 0, none⟩) 1 1 [0]) from by
        have h := S2.out
        rw [show (w1.setCell ⟨g, 0, none⟩ (.int .i64 (q : Int))).heap.size = w1.heap.size by simp] at h
        exact h)
      clear S2
      go_loopw [10, 11] (fun v u wr => ∃ (i m c2 : Nat) (A2 : Option Addr) (D O : List Int), u = .int .i64 i ∧ v = .slice A2 m c2 ∧ i ≤ m ∧ St w wr (hsPs w.heap.size (.slice (some ⟨b, o, none⟩) N c) (w.heap.size + 1) (.slice (some ⟨b1, o1, none⟩) N c1) g k c' D A2 m c2 O) ∧ SInv k xss yss q i 0 O D) (fun _ u _ => k - (intOf u).toNat)
      case atStart => exact ⟨0, 1, 1, _, _, _, rfl, rfl, by omega, S3.out, R0.out⟩
      case round =>
        obtain ⟨i, m, c2, A2, D, O, rfl, rfl, him, st, tt⟩ := hrel
        have hlen := hs_len st
        have hlen2 := passed_len tt.ps
        have S := Lib.hid st
        have T := Lib.hid tt
        have hbc := (st.blk (i := 0) rfl).cell (i := 0) rfl
        clear st tt S3 R0
        by_cases hlt : i < m
        · obtain ⟨x, hxx⟩ : ∃ x, O[i]? = some x := ⟨_, List.getElem?_eq_getElem (by omega)⟩
          have hxr := T.out.ps.1 x (List.mem_of_getElem? hxx)
          obtain ⟨p, rfl⟩ := Int.eq_ofNat_of_zero_le hxr.1
          have hpn : p < k := by omega
          obtain ⟨gO, rfl⟩ := own_shape (S.out.own (i := 3) rfl) (show 0 < m by omega)
          have hcx := own_cell (S.out.own (i := 3) rfl) (show (ints O)[i]? = some (.int .i64 p) by rw [ints, List.getElem?_map, hxx]; rfl)
          have HXX := Lib.hid hxx
          clear hxx hxr
          go_wp2
          clear hcx hbc
          go_loopw [10, 13] (fun v u wi => ∃ (j m2 c3 : Nat) (A3 : Option Addr) (D O : List Int), u = .int .i64 j ∧ v = .slice A3 m2 c3 ∧ j ≤ N ∧ i < m2 ∧ O[i]? = some (p : Int) ∧ St w wi (hsPs w.heap.size (.slice (some ⟨b, o, none⟩) N c) (w.heap.size + 1) (.slice (some ⟨b1, o1, none⟩) N c1) g k c' D A3 m2 c3 O) ∧ SInv k xss yss q i j O D) (fun _ u _ => N - (intOf u).toNat)
          case atStart => exact ⟨0, m, c2, _, D, O, rfl, rfl, Nat.zero_le _, hlt, HXX.out, S.out, T.out⟩
          case round =>
            obtain ⟨j, m2, c3, A3, D2, O2, rfl, rfl, hj, him2, hxx2, st2, ri2⟩ := hrel
            have hl2 := hs_len st2
            have hl3 := passed_len ri2.ps
            have S2 := Lib.hid st2
            have R2 := Lib.hid ri2
            have HP := Lib.hid hxx2
            have hbm := (st2.blk (i := 0) rfl).cell (i := 0) rfl
            clear st2 ri2 S T hxx2
            by_cases hjl : j < N
            · obtain ⟨b3, o3, A4, c4, gg, he, hg, hc, hrd, hms⟩ := (HA.out.keep S2.out.below).row (k := j) (by rw [HX.out]; exact hjl)
              obtain ⟨rfl, rfl⟩ : b = b3 ∧ o = o3 := by simpa using he
              have hlg := sys_len HS.out hg
              obtain ⟨l, hl⟩ : ∃ l, gg.length = l := ⟨_, rfl⟩
              rw [hl] at hc hms hlg
              obtain ⟨b4, o4, y, rfl, hgy, hcy⟩ := hrd.int (k := p) (by omega)
              obtain ⟨r, rfl, hr0⟩ := sys_at HS.out hg hgy
              have hrn : r < k := by omega
              obtain ⟨v, hvn, hDv⟩ := sinv_at R2.out HP.out
              have hcv := own_cell (S2.out.own (i := 2) rfl) (show (ints D2)[p]? = some (.int .i64 v) by simp [hDv])
              obtain ⟨gP, rfl⟩ := own_shape (S2.out.own (i := 3) rfl) (show 0 < m2 by omega)
              have hcp := own_cell (S2.out.own (i := 3) rfl) (show (ints O2)[i]? = some (.int .i64 p) by rw [ints, List.getElem?_map, HP.out]; rfl)
              obtain ⟨b5, o5, A5, c5, hh, he2, hgh, hch, hrh, hmh⟩ := (HB.out.keep S2.out.below).row (k := j) (by rw [HY.out]; exact hjl)
              obtain ⟨rfl, rfl⟩ : b1 = b5 ∧ o1 = o5 := by simpa using he2
              have hlh := sys_len HSY.out hgh
              obtain ⟨l2, hl2⟩ : ∃ l, hh.length = l := ⟨_, rfl⟩
              rw [hl2] at hch hmh hlh
              obtain ⟨b6, o6, y2, rfl, hhy, hcm⟩ := hrh.int (k := v) (by omega)
              obtain ⟨mm, rfl, hm0⟩ := sys_at HSY.out hgh hhy
              have hmn : mm < k := by omega
              have hbk := (S2.out.blk (i := 1) rfl).cell (i := 0) rfl
              have FR := Lib.hid (show fz gg p = (r : Int) from fz_at hgy)
              have FM := Lib.hid (show fz hh v = (mm : Int) from fz_at hhy)
              have HG := Lib.hid hg
              have HH := Lib.hid hgh
              have DV := Lib.hid hDv
              clear he he2 hgy hhy hrd hrh hg hgh hDv
              rcases R2.out.hI.val r hrn with hDr | ⟨u, hun, hDr⟩
              · have hcr := own_cell (S2.out.own (i := 2) rfl) (show (ints D2)[r]? = some (.int .i64 (-1)) by simp [hDr])
                have hfr := (S2.out.own (i := 2) rfl).frozenAt r
                have R3 := Lib.hid (sinv_new R2.out HP.out HG.out HH.out hpn FR.out hrn DV.out FM.out hmn hDr)
                clear hDr
                go_wp2
                go_quiet (fail)
                have S3 := Lib.hid (S2.out.go (below_drewN (Below.refl _ _) nq))
                have S5 := Lib.hid (hs_set S3.out r (mm : Int))
                have hws := S5.out.lo
                go_wp2_with (at_builtin; refine wpList_push_at _ rfl _ _ 36 2 rfl Try.underlying36 (.int .i64 0) 8 Try.info2 rfl w.heap.size _ _ _ rfl (S5.out.own (i := 3) rfl) _ rfl ?hx (by omega) (by omega) hws ?_)
                case hx => simp [Act.eval]
                intro A7 c7 w7 own7 gr7 hat7
                have S7 := Lib.hid (show St w w7 (hsPs w.heap.size (.slice (some ⟨b, o, none⟩) N c) (w.heap.size + 1) (.slice (some ⟨b1, o1, none⟩) N c1) g k c' (D2.set r (mm : Int)) A7 (m2 + 1) c7 (O2 ++ [(r : Int)])) from by
                  have h := S5.out.push (i := 3) rfl own7 gr7 (by simpa using hat7)
                  simpa [ints, hsPs] using h)
                clear own7 gr7 hat7
                have hcr2 := own_cell (S7.out.own (i := 2) rfl) (show (ints (D2.set r (mm : Int)))[r]? = some (.int .i64 mm) by simp [R2.out.hI.len, hrn])
                go_wp2
                go_roundw
                case rel => exact ⟨j + 1, m2 + 1, c7, A7, _, O2 ++ [(r : Int)], by go_num, rfl, by omega, by omega, by rw [List.getElem?_append_left (by omega)]; exact HP.out, S7.out, R3.out⟩
                case measure => simp [intOf]; omega
              · have hcr := own_cell (S2.out.own (i := 2) rfl) (show (ints D2)[r]? = some (.int .i64 u) by simp [hDr])
                by_cases hum : u = mm
                · subst hum
                  have R3 := Lib.hid (sinv_same R2.out HP.out HG.out HH.out FR.out DV.out FM.out hDr)
                  clear hDr
                  go_wp2
                  go_quiet (fail)
                  have S3 := Lib.hid (S2.out.go (below_drewN (Below.refl _ _) nq))
                  go_wp2
                  go_roundw
                  case rel => exact ⟨j + 1, m2, c3, _, _, O2, by go_num, rfl, by omega, him2, HP.out, S3.out, R3.out⟩
                  case measure => simp [intOf]; omega
                · have NO := Lib.hid (hinv_fail R2.out.hI HG.out HH.out hpn FR.out DV.out FM.out hDr hum)
                  clear hDr
                  go_wp2
                  go_quiet (fail)
                  have S3 := Lib.hid (S2.out.go (below_drewN (Below.refl _ _) nq))
                  go_wp2
                  go_ret2
                  exact ⟨S3.out.below, .inl ⟨NO.out, rfl⟩⟩
            · have h := R2.out
              rw [show j = xss.length by rw [HX.out]; omega] at h
              have R3 := Lib.hid (sinv_next h)
              clear h
              go_wp2
              go_roundw
              case rel => exact ⟨i + 1, m2, c3, A3, D2, O2, by go_num, rfl, by omega, S2.out, R3.out⟩
              case measure => simp [intOf]; omega
        · have hD := sinv_done HS.out HXY.out hn HPX.out HALL.out T.out (by omega)
          have HD := Lib.hid hD
          clear hD
          go_wp2
          go_ret2
          exact ⟨S.out.below, .inr ⟨D, g, c', HD.out, rfl, S.out.own (i := 2) rfl⟩⟩
end Go.Proofs.Ytmgoaabeopnopaa
/- impl.firstIsomorphism and impl.automorphisms. -/
namespace Go.Proofs.Ytmgoaabeopnopaa
open Go.RowKit

theorem isoRet_bel {w w' w2 : World} {n : Nat} {o : Option (List Int)} {e : Ending} (hb : Below w.heap.size w w2) (h : IsoRet w2 n o e w') : IsoRet w n o e w' := by
  obtain ⟨h1, h2⟩ := h
  refine ⟨hb.trans (h1.mono hb.size), h2.imp id ?_⟩
  rintro ⟨L, g, c, h3, h4, h5⟩
  exact ⟨L, g, c, h3, h4, own_base h5 hb.size⟩

end Go.Proofs.Ytmgoaabeopnopaa
/- spec.l06Fits, l06First and l06All. -/
namespace Go.Proofs.Ytmgoaabeopnopaa
open Go.RowKit

end Go.Proofs.Ytmgoaabeopnopaa
/- spec.l06First. -/
namespace Go.Proofs.Ytmgoaabeopnopaa
open Go.RowKit

end Go.Proofs.Ytmgoaabeopnopaa
/- impl.automorphisms and spec.l06All. -/
namespace Go.Proofs.Ytmgoaabeopnopaa
open Go.RowKit

def RetSL (w : World) (L : List (List Int)) (e : Ending) (w' : World) : Prop :=
  ∃ A m c, e = .returned (.slice A m c) ∧ L.length = m ∧ OwnSS w' w.heap.size w'.heap.size 36 A m c L ∧ Below w.heap.size w w'

set_option maxHeartbeats 6400000 in
set_option maxRecDepth 8000 in
theorem iauts_any {A : Option Addr} {c N : Nat} {xss : List (List Int)} (w : World) (hm : okMan xss = true) (hx : xss.length = N) (ha : RdSS w A xss) :
    Calls Try.prog 120 #[.agg #[.slice A N c]] w (RetSL w (autL xss)) := by
  have hman := okMan_iff.1 hm
  have hsys := hman.sys
  have hn4 := hman.f4
  have hn2 := hman.f2
  have hpos := hman.pos hx
  have hN : N ≤ 1048576 := by have := hman.r5; omega
  have hall := hman.all (q := 0) (by omega)
  obtain ⟨b, o, A0, c0, rfl, hc0⟩ := man_row0 hman ha
  have hf : autL xss = autTo xss (flN xss) (flN xss) := rfl
  rw [hf]
  obtain ⟨n, hn⟩ : ∃ n, flN xss = n := ⟨_, rfl⟩
  rw [hn] at hc0 hsys hn2 hn4 hall ⊢
  have HX := Lib.hid hx
  have HA := Lib.hid ha
  have HC0 := Lib.hid hc0
  have HS := Lib.hid hsys
  have HALL := Lib.hid hall
  have st0 := ((St.start w).addBlk #[.slice (some ⟨b, o, none⟩) N c] 27).addNilRows 2 36
  have S0 := Lib.hid st0
  have x0 := (st0.blk (i := 0) rfl).cell (i := 0) rfl
  clear st0 hx ha hc0 hsys hall hman hm hf hn
  go_enter Try.func120, Try.ntmps120
  go_wp2_with fail
  refine (flags_bel _ hpos (cell_be HC0.out S0.out.below)).mono ?_
  rintro e w1 ⟨rfl, bel⟩
  have S1 := Lib.hid (S0.out.go bel)
  clear bel x0 S0
  go_wp2
  go_loopw [3, 8] (fun u i wr => ∃ (j m c' : Nat) (A' : Option Addr) (vals : List Value), j ≤ n ∧ m ≤ j ∧ i = .int .i64 j ∧ u = .slice A' m c' ∧ St w wr [.blk w.heap.size #[.slice (some ⟨b, o, none⟩) N c] 27, .rows 2 36 A' m c' vals (autTo xss n j)]) (fun _ i _ => n - (intOf i).toNat)
  case atStart => exact ⟨0, 0, 0, _, [], Nat.zero_le _, Nat.le_refl _, rfl, rfl, by simpa [autTo] using S1.out⟩
  case round =>
    obtain ⟨j, m, c', A', vals, hj, hmj, rfl, rfl, st⟩ := hrel
    have S := Lib.hid st
    have x1 := (st.blk (i := 0) rfl).cell (i := 0) rfl
    clear st S1
    have S2 := S
    clear S
    by_cases hlt : j < n
    · go_wp2_with fail
      refine (iisoTo_any (q := j) _ HX.out (HA.out.keep S2.out.below) HX.out (HA.out.keep S2.out.below) hN HS.out HS.out (cell_be HC0.out S2.out.below) hpos hlt HALL.out).mono ?_
      rintro e w3 ⟨bel, ⟨hi, rfl⟩ | ⟨L, g, c3, hi, rfl, own⟩⟩
      · have S3 := Lib.hid (S2.out.go bel)
        have NO := Lib.hid (autTo_none hi)
        clear bel hi
        go_wp2
        go_roundw
        case rel => exact ⟨j + 1, m, c', A', vals, by omega, by omega, by go_num, rfl, by rw [NO.out]; exact S3.out⟩
        case measure => simp [intOf]; omega
      · have S3 := Lib.hid (S2.out.addOwn bel own (Nat.le_refl _))
        have YES := Lib.hid (autTo_some hi)
        have LEN := Lib.hid (isoL_len hi)
        have hlo := S3.out.lo
        clear bel hi own
        go_wp2_with (at_builtin; refine wpList_push_at _ rfl _ _ 22 36 rfl Try.underlying22 (.slice none 0 0) 24 Try.infoS rfl w.heap.size _ _ _ rfl (S3.out.rows (i := 1) rfl) _ rfl rfl (by omega) (by omega) hlo ?_)
        intro A8 c8 w8 own8 gr8 hat8
        have st8 := (S3.out.rowPush (i := 1) (j := 2) rfl rfl LEN.out (by decide) (by decide) own8 gr8 hat8).take 2
        have S8 := Lib.hid st8
        clear own8 gr8 hat8 st8
        go_wp2
        go_roundw
        case rel => exact ⟨j + 1, m + 1, c8, A8, _, by omega, by omega, by go_num, rfl, by rw [YES.out]; exact S8.out⟩
        case measure => simp [intOf]; omega
    · obtain rfl : j = n := by omega
      have hml := S2.out.sep.rows_len (i := 1) rfl
      have HML := Lib.hid hml
      clear hml
      go_wp2
      go_ret
      exact ⟨A', m, c', rfl, HML.out, (S2.out.sep.ownSS (i := 1) rfl), S2.out.below⟩

set_option maxHeartbeats 6400000 in
set_option maxRecDepth 8000 in
theorem sauts_any {A : Option Addr} {c N : Nat} {xss : List (List Int)} (w : World) (hm : okMan xss = true) (hx : xss.length = N) (ha : RdSS w A xss) :
    Calls Try.prog 121 #[.agg #[.slice A N c]] w (RetSL w (autL xss)) := by
  have hman := okMan_iff.1 hm
  have hsys := hman.sys
  have hn4 := hman.f4
  have hn2 := hman.f2
  have hpos := hman.pos hx
  have hN : N ≤ 1048576 := by have := hman.r5; omega
  have hall := hman.all (q := 0) (by omega)
  obtain ⟨b, o, A0, c0, rfl, hc0⟩ := man_row0 hman ha
  have hf : autL xss = autTo xss (flN xss) (flN xss) := rfl
  rw [hf]
  obtain ⟨n, hn⟩ : ∃ n, flN xss = n := ⟨_, rfl⟩
  rw [hn] at hc0 hsys hn2 hn4 hall ⊢
  have HX := Lib.hid hx
  have HA := Lib.hid ha
  have HC0 := Lib.hid hc0
  have HS := Lib.hid hsys
  have HALL := Lib.hid hall
  have st0 := ((St.start w).addBlk #[.slice (some ⟨b, o, none⟩) N c] 27).addMadeRows 2 36
  have S0 := Lib.hid st0
  have x0 := (st0.blk (i := 0) rfl).cell (i := 0) rfl
  clear st0 hx ha hc0 hsys hall hman hm hf hn
  go_enter Try.func121, Try.ntmps121
  clear x0
  have S1 := S0
  clear S0
  go_wp2
  go_loopw [3, 4] (fun u i wr => ∃ (j m c' : Nat) (A' : Option Addr) (vals : List Value), j ≤ n ∧ m ≤ j ∧ i = .int .i64 j ∧ u = .slice A' m c' ∧ St w wr [.blk w.heap.size #[.slice (some ⟨b, o, none⟩) N c] 27, .rows 2 36 A' m c' vals (autTo xss n j)]) (fun _ i _ => n - (intOf i).toNat)
  case atStart => exact ⟨0, 0, 0, _, [], Nat.zero_le _, Nat.le_refl _, rfl, rfl, by simpa [autTo] using S1.out⟩
  case round =>
    obtain ⟨j, m, c', A', vals, hj, hmj, rfl, rfl, st⟩ := hrel
    have S := Lib.hid st
    have x1 := (st.blk (i := 0) rfl).cell (i := 0) rfl
    clear st S1
    go_wp2_with fail
    refine (sFlags_bel _ hpos (cell_be HC0.out S.out.below)).mono ?_
    rintro e w2 ⟨rfl, bel⟩
    have S2 := Lib.hid (S.out.go bel)
    have x2 := (S2.out.blk (i := 0) rfl).cell (i := 0) rfl
    clear bel x1
    by_cases hlt : j < n
    · go_wp2_with fail
      refine (siso_any (q := j) _ HX.out (HA.out.keep S2.out.below) HX.out (HA.out.keep S2.out.below) hN HS.out HS.out (cell_be HC0.out S2.out.below) hpos hlt HALL.out).mono ?_
      rintro e w3 ⟨bel, ⟨hi, rfl⟩ | ⟨L, g, c3, hi, rfl, own⟩⟩
      · have S3 := Lib.hid (S2.out.go bel)
        have NO := Lib.hid (autTo_none hi)
        clear bel hi
        go_wp2
        go_roundw
        case rel => exact ⟨j + 1, m, c', A', vals, by omega, by omega, by go_num, rfl, by rw [NO.out]; exact S3.out⟩
        case measure => simp [intOf]; omega
      · have S3 := Lib.hid (S2.out.addOwn bel own (Nat.le_refl _))
        have YES := Lib.hid (autTo_some hi)
        have LEN := Lib.hid (isoL_len hi)
        have hlo := S3.out.lo
        clear bel hi own
        go_wp2_with (at_builtin; refine wpList_push_at _ rfl _ _ 22 36 rfl Try.underlying22 (.slice none 0 0) 24 Try.infoS rfl w.heap.size _ _ _ rfl (S3.out.rows (i := 1) rfl) _ rfl rfl (by omega) (by omega) hlo ?_)
        intro A8 c8 w8 own8 gr8 hat8
        have st8 := (S3.out.rowPush (i := 1) (j := 2) rfl rfl LEN.out (by decide) (by decide) own8 gr8 hat8).take 2
        have S8 := Lib.hid st8
        clear own8 gr8 hat8 st8
        go_wp2
        go_roundw
        case rel => exact ⟨j + 1, m + 1, c8, A8, _, by omega, by omega, by go_num, rfl, by rw [YES.out]; exact S8.out⟩
        case measure => simp [intOf]; omega
    · obtain rfl : j = n := by omega
      have hml := S2.out.sep.rows_len (i := 1) rfl
      have HML := Lib.hid hml
      clear hml
      go_wp2
      go_ret
      exact ⟨A', m, c', rfl, HML.out, (S2.out.sep.ownSS (i := 1) rfl), S2.out.below⟩

end Go.Proofs.Ytmgoaabeopnopaa
