import Derived.Test.YtmikoihpmhfafaaFpt
import Derived.Test.YtmikoihpmhfafaaExt
import Derived.Test.YtmikoihpmhfafaaFcn
/- An extension of a maniplex is one. Facts outside the walks. -/
namespace Go.Proofs.Ytmikoihpmhfafaa
open Go.RowKit

section
variable {xss : List (List Int)} {n M f : Nat} {m p q : List Int}
theorem fz_tu (h : f < M) : fz (tuL M) (f : Int) = ((if f % 2 = 0 then f + 1 else f - 1 : Nat) : Int) := fz_at (by simp [tuL, h])
theorem fz_mv (h : f < M) : fz (mvL M m) (f : Int) = 2 * fz m ((f / 2 : Nat) : Int) + ((f % 2 : Nat) : Int) := fz_at (by simp [mvL, h])
theorem invol_ok {zs : List Int} (hn : zs.length = n) (h4 : n ≤ 400) (h : ∀ k : Nat, k < n → ∃ j : Nat, j < n ∧ fz zs (k : Int) = (j : Int) ∧ j ≠ k ∧ fz zs (j : Int) = (k : Int)) : zs.length = n ∧ okP zs = true ∧ freeP zs = true := by
  have ho : okP zs = true := okP_of hn h4 (fun x h0 h1 => by
      obtain ⟨k, rfl⟩ := Int.eq_ofNat_of_zero_le h0
      obtain ⟨j, hj, e, _, _⟩ := h k (by omega)
      rw [e]
      omega) (fun x y h0 h1 h2 h3 e => by
      obtain ⟨k, rfl⟩ := Int.eq_ofNat_of_zero_le h0
      obtain ⟨l, rfl⟩ := Int.eq_ofNat_of_zero_le h2
      obtain ⟨j, hj, e1, _, e2⟩ := h k (by omega)
      obtain ⟨i, hi, e3, _, e4⟩ := h l (by omega)
      rw [e1, e3] at e
      rw [e, e4] at e2
      exact e2.symm)
  refine ⟨hn, ho, (free_iff hn ho).2 fun k hk => ?_⟩
  obtain ⟨j, hj, e, hne, e2⟩ := h k hk
  rw [e]
  exact ⟨by omega, e2⟩
theorem tu_row (h4 : 2 * n ≤ 400) : (tuL (2 * n)).length = 2 * n ∧ okP (tuL (2 * n)) = true ∧ freeP (tuL (2 * n)) = true :=
  invol_ok (tuL_len _) h4 fun k hk => by
    refine ⟨if k % 2 = 0 then k + 1 else k - 1, ?_, fz_tu hk, ?_, ?_⟩
    · split <;> omega
    · split <;> omega
    · rw [fz_tu (by split <;> omega)]
      split <;> split <;> omega
theorem mv_at (hl : m.length = n) (hok : okP m = true) (hf : f < 2 * n) : ∃ j : Nat, j < n ∧ fz m ((f / 2 : Nat) : Int) = (j : Int) ∧ fz (mvL (2 * n) m) (f : Int) = ((2 * j + f % 2 : Nat) : Int) := by
  have hi := fz_in hl hok (x := ((f / 2 : Nat) : Int)) (by omega) (by omega)
  obtain ⟨j, hj⟩ := Int.eq_ofNat_of_zero_le hi.1
  refine ⟨j, by omega, hj, ?_⟩
  rw [fz_mv hf, hj]
  omega
theorem mv_row (h4 : 2 * n ≤ 400) (hl : m.length = n) (hok : okP m = true) (hfr : freeP m = true) : (mvL (2 * n) m).length = 2 * n ∧ okP (mvL (2 * n) m) = true ∧ freeP (mvL (2 * n) m) = true :=
  invol_ok (mvL_len _ _) h4 fun k hk => by
    obtain ⟨j, hj, e1, e2⟩ := mv_at hl hok hk
    have h1 := (free_iff hl hok).1 hfr (k / 2) (by omega)
    obtain ⟨i, hi, e3, e4⟩ := mv_at (f := 2 * j + k % 2) hl hok (by omega)
    rw [show (2 * j + k % 2) / 2 = j by omega] at e3
    rw [e1] at h1
    rw [e3] at h1
    refine ⟨_, by omega, e2, by omega, ?_⟩
    rw [e4]
    omega
/-- The doubled moves, and the one that goes from a copy to the other. -/
theorem ex_mem {inner : Bool} {g : List Int} : g ∈ exL inner n xss ↔ g = tuL (2 * n) ∨ ∃ m ∈ xss, g = mvL (2 * n) m := by
  unfold exL mvS
  cases inner <;> simp [or_comm, eq_comm]
theorem ex_rows {inner : Bool} (h : IsMan xss) (hn : flN xss = n) (h4 : n ≤ 200) : ∀ g ∈ exL inner n xss, g.length = 2 * n ∧ okP g = true ∧ freeP g = true := fun g hg => by
  rcases ex_mem.1 hg with rfl | ⟨m, hm, rfl⟩
  · exact tu_row (by omega)
  · have hr := h.row m hm
    rw [hn] at hr
    exact mv_row (by omega) hr.1 hr.2.1 hr.2.2
theorem ex_fl {inner : Bool} (h : IsMan xss) (hn : flN xss = n) (h4 : n ≤ 200) : flN (exL inner n xss) = 2 * n := by
  have h0 : 0 < (exL inner n xss).length := by rw [exL_len]; omega
  rw [fl_of (List.getElem?_eq_getElem h0)]
  exact (ex_rows h hn h4 _ (List.getElem_mem h0)).1
theorem ex_sys {inner : Bool} (h : IsMan xss) (hn : flN xss = n) (h4 : n ≤ 200) : okSys ((2 * n : Nat) : Int) (exL inner n xss) = true :=
  decide_eq_true ⟨by omega, by omega, by rw [exL_len]; have := h.r5; omega, fun xs hx => by
    have := ex_rows h hn h4 xs hx
    exact ⟨by rw [this.1], this.2.1⟩⟩
theorem ex_orb {inner : Bool} (h : IsMan xss) (hn : flN xss = n) (h4 : n ≤ 200) : (orbL (exL inner n xss) (2 * n) ((0 : Nat) : Int)).length = 2 * n := by
  have hn2 := h.f2
  rw [hn] at hn2
  have hs := h.sys
  rw [hn] at hs
  obtain ⟨pa, ma, ca⟩ := orb_facts (ex_sys (inner := inner) h hn h4) (f := 0) (by omega)
  obtain ⟨S, hS⟩ : ∃ S, orbL (exL inner n xss) (2 * n) ((0 : Nat) : Int) = S := ⟨_, rfl⟩
  rw [hS] at pa ma ca ⊢
  obtain ⟨T, hT⟩ : ∃ T : List Int, ((List.range n).filter fun j => decide (((2 * j : Nat) : Int) ∈ S)).map (fun (j : Nat) => (j : Int)) = T := ⟨_, rfl⟩
  have tm : ∀ z : Int, z ∈ T ↔ ∃ j : Nat, j < n ∧ ((2 * j : Nat) : Int) ∈ S ∧ (j : Int) = z := fun z => by
    rw [← hT]
    simp [and_assoc]
  have hc : Closed xss T := fun g hg x hx => by
    obtain ⟨j, hj, hjS, rfl⟩ := (tm x).1 hx
    have hr := h.row g hg
    rw [hn] at hr
    obtain ⟨i, hi, e1, e2⟩ := mv_at (f := 2 * j) hr.1 hr.2.1 (by omega)
    have := ca _ (ex_mem.2 (.inr ⟨g, hg, rfl⟩)) _ hjS
    rw [e2, show 2 * i + 2 * j % 2 = 2 * i by omega] at this
    rw [show 2 * j / 2 = j by omega] at e1
    exact (tm _).2 ⟨i, hi, this, e1.symm⟩
  have h0 : ((0 : Nat) : Int) ∈ T := (tm _).2 ⟨0, by omega, by simpa using ma, rfl⟩
  have hall := h.orb
  rw [hn] at hall
  obtain ⟨p0, m0, c0⟩ := orb_facts hs (f := 0) (by omega)
  refine len_all (fun k hk => ?_) pa
  have hev : ((2 * (k / 2) : Nat) : Int) ∈ S := by
    have hmem : ((k / 2 : Nat) : Int) ∈ orbL xss n ((0 : Nat) : Int) := passed_all p0 (by simpa using hall) (p := k / 2) (by omega)
    obtain ⟨j, hj, hjS, e⟩ := (tm _).1 (orb_sub (n := n) hc h0 _ hmem)
    rw [show k / 2 = j by omega]
    exact hjS
  by_cases hk2 : k % 2 = 0
  · rw [show 2 * (k / 2) = k by omega] at hev
    exact hev
  · have := ca _ (ex_mem.2 (.inl rfl)) _ hev
    rw [fz_tu (by omega), if_pos (by omega), show 2 * (k / 2) + 1 = k by omega] at this
    exact this
theorem sq_mm {a b : List Int} (ha : a.length = n ∧ okP a = true) (hb : b.length = n ∧ okP b = true) (h : SqOk n a b) : SqOk (2 * n) (mvL (2 * n) a) (mvL (2 * n) b) := by
  intro f hf
  obtain ⟨i, hi, e1, e2⟩ := mv_at ha.1 ha.2 hf
  obtain ⟨j, hj, e3, e4⟩ := mv_at hb.1 hb.2 hf
  obtain ⟨k, hk, e5, e6⟩ := mv_at (f := 2 * j + f % 2) ha.1 ha.2 (by omega)
  obtain ⟨l, hl, e7, e8⟩ := mv_at (f := 2 * i + f % 2) hb.1 hb.2 (by omega)
  rw [show (2 * j + f % 2) / 2 = j by omega] at e5
  rw [show (2 * i + f % 2) / 2 = i by omega] at e7
  have hs := h (f / 2) (by omega)
  rw [e1, e3, e5, e7] at hs
  rw [e2, e4, e6, e8]
  omega
theorem sq_mt {a : List Int} (ha : a.length = n ∧ okP a = true ∧ freeP a = true) : SqOk (2 * n) (mvL (2 * n) a) (tuL (2 * n)) := by
  intro f hf
  obtain ⟨i, hi, e1, e2⟩ := mv_at ha.1 ha.2.1 hf
  have hfr := (free_iff ha.1 ha.2.1).1 ha.2.2 (f / 2) (by omega)
  rw [e1] at hfr
  obtain ⟨t, ht⟩ : ∃ t, (if f % 2 = 0 then f + 1 else f - 1) = t := ⟨_, rfl⟩
  have htb : t < 2 * n ∧ t / 2 = f / 2 ∧ t % 2 = 1 - f % 2 := by rw [← ht]; split <;> omega
  obtain ⟨j, hj, e3, e4⟩ := mv_at (f := t) ha.1 ha.2.1 htb.1
  rw [htb.2.1, e1] at e3
  rw [e2, fz_tu hf, ht, e4, fz_tu (by omega)]
  refine ⟨by omega, ?_⟩
  split <;> omega
theorem SqOk.symm {a b : List Int} (h : SqOk n a b) : SqOk n b a := fun f hf => ⟨fun e => (h f hf).1 e.symm, (h f hf).2.symm⟩
theorem ex_man {inner : Bool} (h : IsMan xss) (hn : flN xss = n) (h4 : n ≤ 200) (h5 : xss.length ≠ 5) : IsMan (exL inner n xss) := by
  have hn2 := h.f2
  have hr5 := h.r5
  have hf := ex_fl (inner := inner) h hn h4
  have hrow : ∀ i a, xss[i]? = some a → a.length = n ∧ okP a = true ∧ freeP a = true := fun i a ha => by
    have := h.row a (List.mem_of_getElem? ha)
    rwa [hn] at this
  have hsq : ∀ (i k : Nat) (p q : List Int), i + 2 ≤ k → xss[i]? = some p → xss[k]? = some q → SqOk n p q := by have := h.sq; rwa [hn] at this
  refine ⟨by rw [exL_len]; omega, by rw [exL_len]; omega, by rw [hf]; omega, by rw [hf]; omega, fun g hg => by rw [hf]; exact ex_rows h hn h4 g hg, fun i k p q hik hp hq => ?_, ?_⟩
  · rw [hf]
    have hlk := (List.getElem?_eq_some_iff.1 hq).1
    rw [exL_len] at hlk
    cases inner
    · simp only [exL, mvS, Bool.false_eq_true, if_false] at hp hq
      rw [List.getElem?_append_left (by simp; omega), List.getElem?_map, Option.map_eq_some_iff] at hp
      obtain ⟨a, ha, rfl⟩ := hp
      have ra := hrow i a ha
      by_cases hk : k < xss.length
      · rw [List.getElem?_append_left (by simp; omega), List.getElem?_map, Option.map_eq_some_iff] at hq
        obtain ⟨b, hb, rfl⟩ := hq
        have rb := hrow k b hb
        exact sq_mm ⟨ra.1, ra.2.1⟩ ⟨rb.1, rb.2.1⟩ (hsq i k a b hik ha hb)
      · rw [List.getElem?_append_right (by simp; omega), show k - (xss.map (mvL (2 * n))).length = 0 by simp; omega] at hq
        simp at hq
        subst hq
        exact sq_mt ra
    · simp only [exL, mvS, if_true] at hp hq
      obtain ⟨k', rfl⟩ : ∃ k', k = k' + 1 := ⟨k - 1, by omega⟩
      rw [List.getElem?_cons_succ, List.getElem?_map, Option.map_eq_some_iff] at hq
      obtain ⟨b, hb, rfl⟩ := hq
      have rb := hrow k' b hb
      cases i with
      | zero =>
        simp at hp
        subst hp
        exact (sq_mt rb).symm
      | succ i =>
        rw [List.getElem?_cons_succ, List.getElem?_map, Option.map_eq_some_iff] at hp
        obtain ⟨a, ha, rfl⟩ := hp
        have ra := hrow i a ha
        exact sq_mm ⟨ra.1, ra.2.1⟩ ⟨rb.1, rb.2.1⟩ (hsq i k' a b (by omega) ha hb)
  · rw [hf]
    have := ex_orb (inner := inner) h hn h4
    simpa using this
end
end Go.Proofs.Ytmikoihpmhfafaa
/- The facet of an extension, and the vertex figure of an inner one. Facts outside the walks. -/
namespace Go.Proofs.Ytmikoihpmhfafaa
open Go.RowKit

section
variable {xss zs : List (List Int)} {n f : Nat}
theorem orb_more {d : Nat} (hs : okSys n zs = true) (hf : f < n) : orbL zs (n + d) (f : Int) = orbL zs n (f : Int) := by
  obtain ⟨pa, _, _⟩ := orb_facts hs hf
  have hlen := passed_len pa
  have e : ∀ k : Nat, orbL zs k (f : Int) = bfs zs [] k [(f : Int)] 0 := fun _ => rfl
  rw [e] at hlen
  rw [e, e, bfs_add n d, bfs_done (f := d) (by omega)]
theorem ex_tr (hs : okSys n zs = true) : Tr (fun x => ∃ j : Nat, j < n ∧ x = ((2 * j : Nat) : Int)) (fun x => x / 2) (mvS (2 * n) zs) zs := by
  refine ⟨fun a b ⟨i, _, e1⟩ ⟨j, _, e2⟩ e => by omega, mvS_len _ _, fun i g h hg hh x ⟨j, hj, e⟩ => ?_⟩
  subst e
  have hm := List.mem_of_getElem? hh
  simp only [mvS, List.getElem?_map, hh, Option.map_some, Option.some.injEq] at hg
  subst hg
  have hr := (sys_parts hs).2.2.2 h hm
  obtain ⟨k, hk, e1, e2⟩ := mv_at (n := n) (f := 2 * j) (m := h) (by have := hr.1; omega) hr.2 (by omega)
  rw [show 2 * j / 2 = j by omega] at e1
  refine ⟨⟨k, hk, by rw [e2]; omega⟩, ?_⟩
  show fz (mvL (2 * n) h) ((2 * j : Nat) : Int) / 2 = fz h (((2 * j : Nat) : Int) / 2)
  rw [e2, show ((2 * j : Nat) : Int) / 2 = (j : Int) by omega, e1]
  omega
theorem ex_sec (h : IsMan xss) (hn : flN xss = n) (h4 : n ≤ 200) : secL (mvS (2 * n) xss) (2 * n) 0 = frmL xss n 0 := by
  have hn2 := h.f2
  rw [hn] at hn2
  have hs := h.sys
  rw [hn] at hs
  have ha := h.all (q := 0) (by omega)
  rw [hn] at ha
  have hsm : okSys ((2 * n : Nat) : Int) (mvS (2 * n) xss) = true := decide_eq_true ⟨by omega, by omega, by rw [mvS_len]; have := h.r5; omega, fun xs hx => by
    obtain ⟨m, hm, rfl⟩ := List.mem_map.1 hx
    have := ex_rows (inner := false) h hn h4 _ (ex_mem.2 (.inr ⟨m, hm, rfl⟩))
    exact ⟨by rw [this.1], this.2.1⟩⟩
  have := tr_sec (p := 0) (q := ((0 : Nat) : Int).toNat) (ex_tr hs) hsm (by omega) ⟨0, by omega, rfl⟩ (by simp)
  rw [this, frm_eq_sec hs (by omega) ha]
  unfold secL
  rw [show 2 * n = n + n by omega]
  simp only [Int.toNat_natCast]
  rw [orb_more hs (by omega)]
end
end Go.Proofs.Ytmikoihpmhfafaa
/- The numbers of faces of an extension. Facts outside the walks. -/
namespace Go.Proofs.Ytmikoihpmhfafaa
open Go.RowKit

section
variable {xss zs ws : List (List Int)} {n f : Nat}
/-- An orbit of the doubled moves with the one that goes from a copy to the other: both copies of an orbit. -/
theorem ex_orb2 (hz : okSys n zs = true) (hw : okSys ((2 * n : Nat) : Int) ws = true) (hm : ∀ g, g ∈ ws ↔ g = tuL (2 * n) ∨ ∃ m ∈ zs, g = mvL (2 * n) m) (hf : f < 2 * n) (z : Int) :
    z ∈ orbL ws (2 * n) (f : Int) ↔ ∃ i e : Nat, e < 2 ∧ z = ((2 * i + e : Nat) : Int) ∧ (i : Int) ∈ orbL zs n ((f / 2 : Nat) : Int) := by
  obtain ⟨p1, m1, c1⟩ := orb_facts hw hf
  obtain ⟨p2, m2, c2⟩ := orb_facts hz (f := f / 2) (by omega)
  have hrow : ∀ m ∈ zs, m.length = n ∧ okP m = true := fun m h => by
    have := (sys_parts hz).2.2.2 m h
    exact ⟨by have := this.1; omega, this.2⟩
  constructor
  · intro h
    obtain ⟨T, hT⟩ : ∃ T : List Int, ((List.range (2 * n)).filter fun k => decide (((k / 2 : Nat) : Int) ∈ orbL zs n ((f / 2 : Nat) : Int))).map (fun (k : Nat) => (k : Int)) = T := ⟨_, rfl⟩
    have tm : ∀ z : Int, z ∈ T ↔ ∃ k : Nat, k < 2 * n ∧ ((k / 2 : Nat) : Int) ∈ orbL zs n ((f / 2 : Nat) : Int) ∧ (k : Int) = z := fun z => by
      rw [← hT]
      simp only [List.mem_map, List.mem_filter, List.mem_range, decide_eq_true_eq, and_assoc]
    have hc : Closed ws T := fun g hg x hx => by
      obtain ⟨k, hk, hkS, rfl⟩ := (tm x).1 hx
      rcases (hm g).1 hg with rfl | ⟨m, hmz, rfl⟩
      · rw [fz_tu hk]
        refine (tm _).2 ⟨_, by split <;> omega, ?_, rfl⟩
        rw [show (if k % 2 = 0 then k + 1 else k - 1) / 2 = k / 2 by split <;> omega]
        exact hkS
      · obtain ⟨j, hj, e1, e2⟩ := mv_at (n := n) (f := k) (m := m) (hrow m hmz).1 (hrow m hmz).2 hk
        rw [e2]
        refine (tm _).2 ⟨_, by omega, ?_, rfl⟩
        rw [show (2 * j + k % 2) / 2 = j by omega, ← e1]
        exact c2 m hmz _ hkS
    obtain ⟨k, hk, hkS, rfl⟩ := (tm z).1 (orb_sub (n := 2 * n) hc ((tm _).2 ⟨f, hf, m2, rfl⟩) z h)
    exact ⟨k / 2, k % 2, by omega, by omega, hkS⟩
  · rintro ⟨i, e, he, rfl, hi⟩
    obtain ⟨T, hT⟩ : ∃ T : List Int, ((List.range n).filter fun j => decide (((2 * j : Nat) : Int) ∈ orbL ws (2 * n) (f : Int))).map (fun (j : Nat) => (j : Int)) = T := ⟨_, rfl⟩
    have tm : ∀ z : Int, z ∈ T ↔ ∃ j : Nat, j < n ∧ ((2 * j : Nat) : Int) ∈ orbL ws (2 * n) (f : Int) ∧ (j : Int) = z := fun z => by
      rw [← hT]
      simp only [List.mem_map, List.mem_filter, List.mem_range, decide_eq_true_eq, and_assoc]
    have hc : Closed zs T := fun g hg x hx => by
      obtain ⟨j, hj, hjS, rfl⟩ := (tm x).1 hx
      obtain ⟨k, hk, e1, e2⟩ := mv_at (n := n) (f := 2 * j) (m := g) (hrow g hg).1 (hrow g hg).2 (by omega)
      have := c1 _ ((hm _).2 (.inr ⟨g, hg, rfl⟩)) _ hjS
      rw [e2, show 2 * k + 2 * j % 2 = 2 * k by omega] at this
      rw [show 2 * j / 2 = j by omega] at e1
      exact (tm _).2 ⟨k, hk, this, e1.symm⟩
    have htu : ∀ k : Nat, k < 2 * n → (k : Int) ∈ orbL ws (2 * n) (f : Int) → ((if k % 2 = 0 then k + 1 else k - 1 : Nat) : Int) ∈ orbL ws (2 * n) (f : Int) := fun k hk h => by
      have := c1 _ ((hm _).2 (.inl rfl)) _ h
      rwa [fz_tu hk] at this
    have h0 : ((2 * (f / 2) : Nat) : Int) ∈ orbL ws (2 * n) (f : Int) := by
      by_cases h2 : f % 2 = 0
      · rw [show 2 * (f / 2) = f by omega]; exact m1
      · have := htu f hf m1
        rwa [if_neg h2, show f - 1 = 2 * (f / 2) by omega] at this
    obtain ⟨j, hj, hjS, e3⟩ := (tm _).1 (orb_sub (n := n) hc ((tm _).2 ⟨f / 2, by omega, h0, rfl⟩) _ hi)
    obtain rfl : j = i := by omega
    rcases (show e = 0 ∨ e = 1 by omega) with rfl | rfl
    · exact hjS
    · have := htu _ (by omega) hjS
      rwa [if_pos (by omega)] at this
/-- There are as many. -/
theorem ex_orbs (hz : okSys n zs = true) (hw : okSys ((2 * n : Nat) : Int) ws = true) (hm : ∀ g, g ∈ ws ↔ g = tuL (2 * n) ∨ ∃ m ∈ zs, g = mvL (2 * n) m) : ∀ k, k ≤ n →
    (orbsTo ws (2 * n) (2 * k)).length = (orbsTo zs n k).length ∧ ∀ z : Int, z ∈ (orbsTo ws (2 * n) (2 * k)).flatten ↔ ∃ i e : Nat, e < 2 ∧ z = ((2 * i + e : Nat) : Int) ∧ (i : Int) ∈ (orbsTo zs n k).flatten
  | 0, _ => ⟨rfl, fun z => by simp [orbsTo]⟩
  | k + 1, hk => by
    obtain ⟨i1, i2⟩ := ex_orbs hz hw hm k (by omega)
    have even : ((2 * k : Nat) : Int) ∈ (orbsTo ws (2 * n) (2 * k)).flatten ↔ (k : Int) ∈ (orbsTo zs n k).flatten := by
      rw [i2]
      constructor
      · rintro ⟨i, e, he, e1, h⟩
        obtain rfl : i = k := by omega
        exact h
      · exact fun h => ⟨k, 0, by omega, rfl, h⟩
    have odd : ((2 * k + 1 : Nat) : Int) ∈ (orbsTo ws (2 * n) (2 * k + 1)).flatten := by
      unfold orbsTo
      split
      · rename_i h
        exact (i2 _).2 ⟨k, 1, by omega, rfl, even.1 h⟩
      · rw [List.flatten_append, List.mem_append]
        refine .inr ?_
        simp only [List.flatten_cons, List.flatten_nil, List.append_nil]
        refine (ex_orb2 hz hw hm (by omega) _).2 ⟨k, 1, by omega, rfl, ?_⟩
        rw [show 2 * k / 2 = k by omega]
        exact (orb_facts hz (by omega)).2.1
    have last : orbsTo ws (2 * n) (2 * (k + 1)) = orbsTo ws (2 * n) (2 * k + 1) := by
      rw [show 2 * (k + 1) = (2 * k + 1) + 1 by omega, orbsTo, if_pos odd]
    rw [last]
    unfold orbsTo
    by_cases hmm : (k : Int) ∈ (orbsTo zs n k).flatten
    · rw [if_pos hmm, if_pos (even.2 hmm)]
      exact ⟨i1, i2⟩
    · rw [if_neg hmm, if_neg (fun h => hmm (even.1 h))]
      refine ⟨by simp [i1], fun z => ?_⟩
      simp only [List.flatten_append, List.mem_append, List.flatten_cons, List.flatten_nil, List.append_nil]
      rw [i2, ex_orb2 hz hw hm (by omega), show 2 * k / 2 = k by omega]
      constructor
      · rintro (⟨i, e, a, b, c⟩ | ⟨i, e, a, b, c⟩)
        · exact ⟨i, e, a, b, .inl c⟩
        · exact ⟨i, e, a, b, .inr c⟩
      · rintro ⟨i, e, a, b, c | c⟩
        · exact .inl ⟨i, e, a, b, c⟩
        · exact .inr ⟨i, e, a, b, c⟩
end
end Go.Proofs.Ytmikoihpmhfafaa
/- The numbers of faces of an extension: the law's two lists. Facts outside the walks. -/
namespace Go.Proofs.Ytmikoihpmhfafaa
open Go.RowKit

section
variable {xss : List (List Int)} {n : Nat}
theorem mvS_sys (h : IsMan xss) (hn : flN xss = n) (h4 : n ≤ 200) : okSys ((2 * n : Nat) : Int) (mvS (2 * n) xss) = true :=
  decide_eq_true ⟨by omega, by omega, by rw [mvS_len]; have := h.r5; omega, fun xs hx => by
    obtain ⟨m, hm, rfl⟩ := List.mem_map.1 hx
    have := ex_rows (inner := false) h hn h4 _ (ex_mem.2 (.inr ⟨m, hm, rfl⟩))
    exact ⟨by rw [this.1], this.2.1⟩⟩
/-- Without the move between the copies, each copy is an orbit. -/
theorem cp_orb (h : IsMan xss) (hn : flN xss = n) (h4 : n ≤ 200) {e : Nat} (he : e < 2) (z : Int) : z ∈ orbL (mvS (2 * n) xss) (2 * n) (e : Int) ↔ ∃ i : Nat, i < n ∧ z = ((2 * i + e : Nat) : Int) := by
  have hn2 := h.f2
  rw [hn] at hn2
  have hs := h.sys
  rw [hn] at hs
  obtain ⟨p1, m1, c1⟩ := orb_facts (mvS_sys h hn h4) (f := e) (by omega)
  have hrow : ∀ m ∈ xss, m.length = n ∧ okP m = true := fun m hm => by
    have := h.row m hm
    rw [hn] at this
    exact ⟨this.1, this.2.1⟩
  constructor
  · intro hz
    obtain ⟨T, hT⟩ : ∃ T : List Int, (List.range n).map (fun (i : Nat) => ((2 * i + e : Nat) : Int)) = T := ⟨_, rfl⟩
    have tm : ∀ z : Int, z ∈ T ↔ ∃ i : Nat, i < n ∧ ((2 * i + e : Nat) : Int) = z := fun z => by
      rw [← hT]
      simp only [List.mem_map, List.mem_range]
    have hc : Closed (mvS (2 * n) xss) T := fun g hg x hx => by
      obtain ⟨i, hi, rfl⟩ := (tm x).1 hx
      obtain ⟨m, hm, rfl⟩ := List.mem_map.1 hg
      obtain ⟨j, hj, e1, e2⟩ := mv_at (n := n) (f := 2 * i + e) (hrow m hm).1 (hrow m hm).2 (by omega)
      rw [e2]
      exact (tm _).2 ⟨j, hj, by omega⟩
    obtain ⟨i, hi, e1⟩ := (tm z).1 (orb_sub (n := 2 * n) hc ((tm _).2 ⟨0, by omega, by omega⟩) z hz)
    exact ⟨i, hi, e1.symm⟩
  · rintro ⟨i, hi, rfl⟩
    obtain ⟨T, hT⟩ : ∃ T : List Int, ((List.range n).filter fun j => decide (((2 * j + e : Nat) : Int) ∈ orbL (mvS (2 * n) xss) (2 * n) (e : Int))).map (fun (j : Nat) => (j : Int)) = T := ⟨_, rfl⟩
    have tm : ∀ z : Int, z ∈ T ↔ ∃ j : Nat, j < n ∧ ((2 * j + e : Nat) : Int) ∈ orbL (mvS (2 * n) xss) (2 * n) (e : Int) ∧ (j : Int) = z := fun z => by
      rw [← hT]
      simp only [List.mem_map, List.mem_filter, List.mem_range, decide_eq_true_eq, and_assoc]
    have hc : Closed xss T := fun g hg x hx => by
      obtain ⟨j, hj, hjS, rfl⟩ := (tm x).1 hx
      obtain ⟨k, hk, e1, e2⟩ := mv_at (n := n) (f := 2 * j + e) (m := g) (hrow g hg).1 (hrow g hg).2 (by omega)
      have := c1 _ (List.mem_map.2 ⟨g, hg, rfl⟩) _ hjS
      rw [e2, show 2 * k + (2 * j + e) % 2 = 2 * k + e by omega] at this
      rw [show (2 * j + e) / 2 = j by omega] at e1
      exact (tm _).2 ⟨k, hk, this, e1.symm⟩
    obtain ⟨p0, m0, c0⟩ := orb_facts hs (f := 0) (by omega)
    have hall := h.orb
    rw [hn] at hall
    have hmem : (i : Int) ∈ orbL xss n ((0 : Nat) : Int) := passed_all p0 (by simpa using hall) (p := i) hi
    obtain ⟨j, hj, hjS, e3⟩ := (tm _).1 (orb_sub (n := n) hc ((tm _).2 ⟨0, by omega, by simpa using m1, rfl⟩) _ hmem)
    obtain rfl : j = i := by omega
    exact hjS
theorem cp_two (h : IsMan xss) (hn : flN xss = n) (h4 : n ≤ 200) : ∀ k, k + 2 ≤ 2 * n → (orbsTo (mvS (2 * n) xss) (2 * n) (k + 2)).length = 2 ∧ ∀ j : Nat, j < 2 * n → (j : Int) ∈ (orbsTo (mvS (2 * n) xss) (2 * n) (k + 2)).flatten
  | 0, hk => by
    have o1 : orbsTo (mvS (2 * n) xss) (2 * n) 1 = [orbL (mvS (2 * n) xss) (2 * n) ((0 : Nat) : Int)] := by simp [orbsTo]
    have hno : ¬ ((1 : Nat) : Int) ∈ (orbsTo (mvS (2 * n) xss) (2 * n) 1).flatten := by
      rw [o1]
      simp only [List.flatten_cons, List.flatten_nil, List.append_nil]
      intro hh
      obtain ⟨i, hi, e⟩ := (cp_orb h hn h4 (e := 0) (by omega) _).1 hh
      omega
    have o2 : orbsTo (mvS (2 * n) xss) (2 * n) (0 + 2) = [orbL (mvS (2 * n) xss) (2 * n) ((0 : Nat) : Int), orbL (mvS (2 * n) xss) (2 * n) ((1 : Nat) : Int)] := by
      show orbsTo (mvS (2 * n) xss) (2 * n) (1 + 1) = _
      rw [orbsTo, if_neg hno, o1]
      rfl
    rw [o2]
    refine ⟨rfl, fun j hj => ?_⟩
    simp only [List.flatten_cons, List.flatten_nil, List.append_nil, List.mem_append]
    rcases (show j % 2 = 0 ∨ j % 2 = 1 by omega) with h2 | h2
    · exact .inl ((cp_orb h hn h4 (e := 0) (by omega) _).2 ⟨j / 2, by omega, by omega⟩)
    · exact .inr ((cp_orb h hn h4 (e := 1) (by omega) _).2 ⟨j / 2, by omega, by omega⟩)
  | k + 1, hk => by
    have ih := cp_two h hn h4 k (by omega)
    have : orbsTo (mvS (2 * n) xss) (2 * n) (k + 1 + 2) = orbsTo (mvS (2 * n) xss) (2 * n) (k + 2) := by
      rw [show k + 1 + 2 = (k + 2) + 1 by omega, orbsTo, if_pos (ih.2 _ (by omega))]
    rw [this]
    exact ih
theorem er_false {j : Nat} (hj : j < xss.length) (g : List Int) : g ∈ (exL false n xss).eraseIdx j ↔ g = tuL (2 * n) ∨ ∃ m ∈ xss.eraseIdx j, g = mvL (2 * n) m := by
  rw [List.mem_eraseIdx_iff_getElem?]
  simp only [List.mem_eraseIdx_iff_getElem?]
  simp only [exL, mvS, Bool.false_eq_true, if_false]
  constructor
  · rintro ⟨i, hij, e⟩
    by_cases hi : i < xss.length
    · rw [List.getElem?_append_left (by simp; omega), List.getElem?_map, Option.map_eq_some_iff] at e
      obtain ⟨m, hm, rfl⟩ := e
      exact .inr ⟨m, ⟨i, hij, hm⟩, rfl⟩
    · rw [List.getElem?_append_right (by simp; omega)] at e
      have := (List.mem_of_getElem? e)
      simp at this
      exact .inl this
  · rintro (rfl | ⟨m, ⟨i, hij, hm⟩, rfl⟩)
    · exact ⟨xss.length, by omega, by rw [List.getElem?_append_right (by simp)]; simp⟩
    · exact ⟨i, hij, by rw [List.getElem?_append_left (by have := (List.getElem?_eq_some_iff.1 hm).1; simp; omega), List.getElem?_map, hm]; rfl⟩
theorem er_true {j : Nat} (g : List Int) : g ∈ (exL true n xss).eraseIdx (j + 1) ↔ g = tuL (2 * n) ∨ ∃ m ∈ xss.eraseIdx j, g = mvL (2 * n) m := by
  rw [List.mem_eraseIdx_iff_getElem?]
  simp only [List.mem_eraseIdx_iff_getElem?]
  simp only [exL, mvS, if_true]
  constructor
  · rintro ⟨i, hij, e⟩
    cases i with
    | zero =>
      simp at e
      exact .inl e.symm
    | succ i =>
      rw [List.getElem?_cons_succ, List.getElem?_map, Option.map_eq_some_iff] at e
      obtain ⟨m, hm, rfl⟩ := e
      exact .inr ⟨m, ⟨i, by omega, hm⟩, rfl⟩
  · rintro (rfl | ⟨m, ⟨i, hij, hm⟩, rfl⟩)
    · exact ⟨0, by omega, by simp⟩
    · exact ⟨i + 1, by omega, by rw [List.getElem?_cons_succ, List.getElem?_map, hm]; rfl⟩
theorem ex_cnt (h : IsMan xss) (hn : flN xss = n) (h4 : n ≤ 200) : cntTo (exL false n xss) (2 * n) (xss.length + 1) = cntTo xss n xss.length ++ [2] ∧ cntTo (exL true n xss) (2 * n) (xss.length + 1) = 2 :: cntTo xss n xss.length := by
  have hn2 := h.f2
  rw [hn] at hn2
  have hs := h.sys
  rw [hn] at hs
  have hw := fun inner => ex_sys (inner := inner) h hn h4
  have two : ((orbsTo (mvS (2 * n) xss) (2 * n) (2 * n)).length : Int) = 2 := by
    have := (cp_two h hn h4 (2 * n - 2) (by omega)).1
    rw [show 2 * n - 2 + 2 = 2 * n by omega] at this
    omega
  have lo : ∀ j, j < xss.length → grtL (facL (exL false n xss) (2 * n) j) = grtL (facL xss n j) := fun j hj => by
    rw [fac_cnt (hw false) (by omega), fac_cnt hs (by omega), (ex_orbs (okSys_erase hs j) (okSys_erase (hw false) j) (er_false hj) n (Nat.le_refl _)).1]
  have hi : ∀ j, j < xss.length → grtL (facL (exL true n xss) (2 * n) (j + 1)) = grtL (facL xss n j) := fun j hj => by
    rw [fac_cnt (hw true) (by omega), fac_cnt hs (by omega), (ex_orbs (okSys_erase hs j) (okSys_erase (hw true) (j + 1)) er_true n (Nat.le_refl _)).1]
  constructor
  · rw [cntTo_succ]
    have e1 : cntTo (exL false n xss) (2 * n) xss.length = cntTo xss n xss.length := List.map_congr_left fun j hj => lo j (List.mem_range.1 hj)
    rw [e1, fac_cnt (hw false) (by omega)]
    have e2 : (exL false n xss).eraseIdx xss.length = mvS (2 * n) xss := by
      simp only [exL, Bool.false_eq_true, if_false]
      rw [List.eraseIdx_append_of_length_le (by rw [mvS_len]; exact Nat.le_refl _), mvS_len, Nat.sub_self]
      simp
    rw [e2, two]
  · unfold cntTo
    rw [List.range_succ_eq_map, List.map_cons, List.map_map]
    refine congr (congrArg List.cons ?_) (List.map_congr_left fun j hj => hi j (List.mem_range.1 hj))
    rw [fac_cnt (hw true) (by omega)]
    have e2 : (exL true n xss).eraseIdx 0 = mvS (2 * n) xss := by simp [exL]
    rw [e2, two]
end
end Go.Proofs.Ytmikoihpmhfafaa
/- The dual of an extension is the inner extension of the dual, up to numbering. Facts outside the walks. -/
namespace Go.Proofs.Ytmikoihpmhfafaa
open Go.RowKit

section
variable {xss us vs : List (List Int)} {n : Nat} {φ : Nat → Nat}
theorem ex_iso (h : IsoS n us vs φ) (hu : okSys n us = true) (hv : okSys n vs = true) : IsoS (2 * n) (exL true n us) (exL true n vs) (fun k => 2 * φ (k / 2) + k % 2) := by
  have ru : ∀ m ∈ us, m.length = n ∧ okP m = true := fun m hm => by
    have := (sys_parts hu).2.2.2 m hm
    exact ⟨by have := this.1; omega, this.2⟩
  have rv : ∀ m ∈ vs, m.length = n ∧ okP m = true := fun m hm => by
    have := (sys_parts hv).2.2.2 m hm
    exact ⟨by have := this.1; omega, this.2⟩
  refine ⟨by rw [exL_len, exL_len, h.len], fun k hk => ?_, fun a b ha hb e => ?_, fun i a b ha hb k hk => ?_⟩
  · have := h.im (k / 2) (by omega)
    show 2 * φ (k / 2) + k % 2 < 2 * n
    omega
  · replace e : 2 * φ (a / 2) + a % 2 = 2 * φ (b / 2) + b % 2 := e
    have := h.inj (a / 2) (b / 2) (by omega) (by omega) (by omega)
    omega
  · have him := h.im (k / 2) (by omega)
    simp only [exL, mvS, if_true] at ha hb
    cases i with
    | zero =>
      simp at ha hb
      subst ha hb
      rw [fz_tu hk, fz_tu (by omega)]
      simp only [Int.toNat_natCast]
      split
      · rw [if_pos (by omega), show (k + 1) / 2 = k / 2 by omega]; omega
      · rw [if_neg (by omega), show (k - 1) / 2 = k / 2 by omega]; omega
    | succ i =>
      rw [List.getElem?_cons_succ, List.getElem?_map, Option.map_eq_some_iff] at ha hb
      obtain ⟨c, hc, rfl⟩ := ha
      obtain ⟨d, hd, rfl⟩ := hb
      have rc := ru c (List.mem_of_getElem? hc)
      have rd := rv d (List.mem_of_getElem? hd)
      obtain ⟨j, hj, e1, e2⟩ := mv_at (n := n) (f := k) (m := c) rc.1 rc.2 hk
      obtain ⟨l, hl, e3, e4⟩ := mv_at (n := n) (f := 2 * φ (k / 2) + k % 2) (m := d) rd.1 rd.2 (by omega)
      have hm := h.mv i c d hc hd (k / 2) (by omega)
      rw [show (2 * φ (k / 2) + k % 2) / 2 = φ (k / 2) by omega] at e3
      rw [e1, e3] at hm
      rw [e2, e4]
      simp only [Int.toNat_natCast] at hm ⊢
      rw [show (2 * j + k % 2) / 2 = j by omega]
      omega
theorem ex_rev : (exL false n xss).reverse = exL true n xss.reverse := by
  simp [exL, mvS]
theorem ex_dual (h : IsMan xss) (hn : flN xss = n) (h4 : n ≤ 200) (h5 : xss.length ≠ 5) : lfR (exL true n (frmL xss.reverse n 0)) = lfR (duR (exL false n xss)) := by
  have hn2 := h.f2
  rw [hn] at hn2
  have mR := isMan_rev h
  have fR := (fl_rev h).trans hn
  have lR : xss.reverse.length ≠ 5 := by rw [List.length_reverse]; exact h5
  have mE := ex_man (inner := false) h hn h4 h5
  have fE := ex_fl (inner := false) h hn h4
  have mI := ex_man (inner := true) mR fR h4 lR
  have fI := ex_fl (inner := true) mR fR h4
  have e1 : duR (exL false n xss) = frmL (exL true n xss.reverse) (2 * n) 0 := by
    rw [duR, if_pos (okMan_true mE), dual_eq mE, fE, ex_rev]
  have e2 := (frm_same (p := 0) mI (by omega)).lf
  rw [fI] at e2
  rw [e1, e2]
  have sR := mR.sys
  rw [fR] at sR
  have aR := mR.all (q := 0) (by omega)
  rw [fR] at aR
  have hi : IsoS n xss.reverse (frmL xss.reverse n 0) (fun k => (fz (invL (orbL xss.reverse n ((0 : Nat) : Int))) (k : Int)).toNat) := ren_iso sR (inv_orb_len aR) (okP_inv (okP_orb sR (by omega) aR))
  obtain ⟨oD, gD⟩ := frm_okM mR fR
  have mD := okMan_iff.1 oD
  have sD := mD.sys
  rw [gD] at sD
  have sI := ex_sys (inner := true) mD gD h4
  exact (same_of (ex_iso hi sR sD) mI fI sI (ex_fl mD gD h4)).lf
end
end Go.Proofs.Ytmikoihpmhfafaa
/- What the law of extensions asks holds. Facts outside the walks. -/
namespace Go.Proofs.Ytmikoihpmhfafaa
open Go.RowKit

/-- What the law of extensions asks. -/
structure ExtF (xss L I F D T O : List (List Int)) : Prop where
  ex : exR false xss = L ∧ exC xss = 0
  inn : exR true xss = I
  fcL : fcR L = fcR xss ++ [2]
  fcI : fcR I = 2 :: fcR xss
  fa : faR L 0 = F ∧ faC L 0 = 0
  vf : vfR I 0 = F ∧ faC I 0 = 0
  fo : ffR xss 0 = F ∧ ffC xss 0 = 0
  du : duR xss = D ∧ duC xss = 0
  tu : exR true D = T ∧ exC D = 0
  ot : duR L = O ∧ duC L = 0
  lf : lfR T = lfR O
  mL : okMan L = true
  mI : okMan I = true
  mF : okMan F = true
  mD : okMan D = true
  mT : okMan T = true
  mO : okMan O = true
  lL : L.length = xss.length + 1
  lI : I.length = xss.length + 1
  lF : F.length = xss.length
  lD : D.length = xss.length
  lT : T.length = xss.length + 1
  lO : O.length = xss.length + 1
set_option maxHeartbeats 1600000 in
theorem extF {xss : List (List Int)} (h : IsMan xss) (h4 : flN xss ≤ 200) (h5 : xss.length ≠ 5) : ∃ L I F D T O, ExtF xss L I F D T O := by
  obtain ⟨n, hn⟩ : ∃ n, flN xss = n := ⟨_, rfl⟩
  rw [hn] at h4
  have hn2 := h.f2
  have hr1 := h.r1
  rw [hn] at hn2
  have ho := okMan_true h
  have mR := isMan_rev h
  have fR := (fl_rev h).trans hn
  have mE := ex_man (inner := false) h hn h4 h5
  have fE := ex_fl (inner := false) h hn h4
  have mI := ex_man (inner := true) h hn h4 h5
  have fI := ex_fl (inner := true) h hn h4
  have oE := okMan_true mE
  have oI := okMan_true mI
  obtain ⟨oF, gF⟩ := frm_okM h hn
  obtain ⟨oD, gD⟩ := frm_okM mR fR
  have lD : (frmL xss.reverse n 0).length = xss.length := by rw [frmL_len, List.length_reverse]
  have mD := okMan_iff.1 oD
  have mT := ex_man (inner := true) mD gD h4 (by rw [lD]; exact h5)
  have hO : duR (exL false n xss) = dualL (exL false n xss) (flN (exL false n xss)) := by rw [duR, if_pos oE]
  have oO : okMan (duR (exL false n xss)) = true := by rw [hO]; exact dual_man oE
  have e1 : duR xss = frmL xss.reverse n 0 := by
    have := dual_eq h
    rw [hn] at this
    rw [duR, if_pos ho, hn]
    exact this
  have lO : (duR (exL false n xss)).length = xss.length + 1 := by rw [hO, dual_eq mE, frmL_len, List.length_reverse, exL_len]
  have hb : flagB n 0 = true := by simp [flagB]; omega
  have cnt := ex_cnt h hn h4
  have fac : ∀ inner, IsMan (exL inner n xss) → faC (exL inner n xss) 0 = 0 := fun inner hm => by
    have a := (scC_ok (p := 0) (a := 0) (b := 0) hm (by have := hm.f2; omega) (by omega) (by rw [exL_len]; omega)).1
    simp only [Int.natCast_zero] at a
    unfold faC
    rw [a, if_pos rfl, if_neg (by rw [exL_len]; omega)]
  refine ⟨exL false n xss, exL true n xss, frmL xss n 0, frmL xss.reverse n 0, exL true n (frmL xss.reverse n 0), duR (exL false n xss), ⟨?_, ?_⟩, ?_, ?_, ?_, ⟨?_, fac false mE⟩, ⟨?_, fac true mI⟩, ?_, ⟨e1, by rw [duC, if_pos ho]⟩, ⟨?_, ?_⟩, ⟨rfl, by rw [duC, if_pos oE]⟩, ex_dual h hn h4 h5, oE, oI, oF, oD, okMan_true mT, oO, exL_len _ _ _, exL_len _ _ _, frmL_len _ _ _, lD, by rw [exL_len, lD], lO⟩
  · rw [exR, if_pos ⟨ho, h5, by omega⟩, hn]
  · rw [exC, if_pos ho, if_neg h5, if_pos (by omega)]
  · rw [exR, if_pos ⟨ho, h5, by omega⟩, hn]
  · unfold fcR
    rw [if_pos oE, if_pos ho, fE, hn, exL_len]
    exact cnt.1
  · unfold fcR
    rw [if_pos oI, if_pos ho, fI, hn, exL_len]
    exact cnt.2
  · unfold faR
    rw [if_pos (fac false mE)]
    unfold secAt
    rw [fE, exL_len, ← ex_sec h hn h4]
    have : ((exL false n xss).drop (0 : Nat)).take (xss.length + 1 - 2 + 1 - 0) = mvS (2 * n) xss := by
      simp only [exL, Bool.false_eq_true, if_false, List.drop_zero]
      rw [List.take_append_of_le_length (by rw [mvS_len]; omega), List.take_of_length_le (by rw [mvS_len]; omega)]
    rw [this]
    rfl
  · unfold vfR
    rw [if_pos (fac true mI)]
    unfold secAt
    rw [fI, exL_len, ← ex_sec h hn h4]
    have : ((exL true n xss).drop 1).take (xss.length + 1 - 1 + 1 - 1) = mvS (2 * n) xss := by
      simp only [exL, if_true, List.drop_one, List.tail_cons]
      rw [List.take_of_length_le (by rw [mvS_len]; omega)]
    rw [this]
    rfl
  · unfold ffR ffC
    rw [if_pos ho, if_pos ho, hn, if_pos hb, if_pos hb]
    exact ⟨rfl, rfl⟩
  · rw [exR, if_pos ⟨oD, by rw [lD]; exact h5, by rw [gD]; exact h4⟩, gD]
  · rw [exC, if_pos oD, if_neg (by rw [lD]; exact h5), if_pos (by rw [gD]; exact h4)]
end Go.Proofs.Ytmikoihpmhfafaa
/- The draw of the law of extensions. -/
namespace Go.Proofs.Ytmikoihpmhfafaa
open Go.RowKit

section
variable {A : Option Addr} {n c : Nat} {bs : List Value}
set_option maxHeartbeats 1600000 in
theorem drawEx (w : World) (hl : bs.length = n) (hr : Rd w A bs) (hu : ∀ v ∈ bs, ∃ x : Nat, v = .int .u8 x ∧ x < 256) (hn : n ≤ 1048576) :
    Calls Try.prog 23 #[.slice A n c] w (RetX w) := by
  have HR := Lib.hid (hr.keep ((Below.refl _ _).alloc (Nat.le_refl _) (.cells #[.slice none 0 0] 26)))
  have HL := Lib.hid hl
  have HU := Lib.hid hu
  have S0 := Lib.hid ((St.start w).addBlk #[.slice none 0 0] 26)
  clear hl hr hu
  go_enter Try.func23, Try.ntmps23
  go_wp2_with fail
  refine (from_any _ HL.out HR.out HU.out hn).mono ?_
  rintro e w1 ⟨g, at', h', rfl, hg, hg1, src, bel⟩
  have HS := Lib.hid (show SrcE (w1.alloc (.cells #[.int .i64 40, .int .i64 40, .int .i64 400] 2)) g A n c bs from SrcE.alloc ⟨at', h', src⟩ _)
  have BEL := Lib.hid (bel.trans ((below1 w1 (.cells #[.int .i64 40, .int .i64 40, .int .i64 400] 2)).mono bel.size))
  have Q := Lib.hid (show ∀ b o, some (⟨w1.heap.size, 0, none⟩ : Addr) = some ⟨b, o, none⟩ → b < g ∨ g + 1 ≤ b from fun b o e => by simp at e; omega)
  clear src bel
  go_wp2_with fail
  refine (pickE (m := 3) (c2 := 3) (xs := [40, 40, 400]) _ HS.out hn rfl (by decide) (by decide) (lit_rd w1 _ _) Q.out).mono ?_
  rintro e w2 ⟨r, rfl, hm, hs2, tu2⟩
  obtain ⟨most, hmost, h8, h4⟩ : ∃ most : Nat, r = (most : Int) ∧ 8 ≤ most ∧ most ≤ 400 := by
    simp at hm
    rcases hm with rfl | rfl
    · exact ⟨40, rfl, by decide, by decide⟩
    · exact ⟨400, rfl, by decide, by decide⟩
  subst hmost
  have BEL2 := Lib.hid (Turns.below BEL.out tu2 BEL.out.size hg)
  have HS2 := Lib.hid hs2
  clear hs2 tu2 hm
  go_wp2_with fail
  refine (spoil2P (most := most) _ HS2.out hn h8 h4).mono ?_
  rintro e w3 ⟨wb, A', N, c', xss, rfl, hl, hN, hR, hc, hc63, d, st⟩
  obtain ⟨tu, sep⟩ := d.fin st
  have S2 := Lib.hid (S0.out.go (Turns.below BEL2.out tu BEL2.out.size hg))
  have HX := Lib.hid hl
  have HRR := Lib.hid hR
  have SEP := Lib.hid sep
  have hlt : w.heap.size < w2.heap.size := by have := BEL2.out.size; simp at this; omega
  have z0 := (S2.out.blk (i := 0) rfl).cell (i := 0) rfl
  have f0 := (S2.out.blk (i := 0) rfl).free 0
  clear hl hR d st tu sep
  go_wp2
  have st4 := S2.out.blkSet (i := 0) rfl 0 (.slice A' N c')
  have y0 := (st4.blk (i := 0) rfl).cell (i := 0) rfl
  exact bodyPost_ret (v := .agg #[.slice A' N c']) (by simp [results, Try.results23, go_sem, y0]) rfl ⟨A', N, c', xss, rfl, HX.out, hN, fun xs hx => by have := HRR.out xs hx; omega, hc, hc63, rds_set SEP.out hlt, st4.below⟩
end
end Go.Proofs.Ytmikoihpmhfafaa
