/- Quotients by automorphisms. Plain facts. -/
import Derived.Test.YtmgoaabeopnopaaCw
import Derived.Test.YtmgoaabeopnopaaL20
import Derived.Test.YtmgoaabeopnopaaL11
namespace Go.Proofs.Ytmgoaabeopnopaa
open Go.RowKit

section
variable {xss ys : List (List Int)} {n q : Nat} {LB g L : List Int}
/-- A covering of a system by itself. -/
theorem cvr_hom (h : Cvr n n xss xss L) : Hom n xss xss L := ⟨h.len, h.im, h.mv⟩
theorem lab_same7 (hs : okSys n ys = true) (hn : 0 < n) {p r : Nat} (hp : p < n) (hr : r < n) : fz (labL ys n) p = fz (labL ys n) r ↔ (r : Int) ∈ orbL ys n p := by
  obtain ⟨j, hpj, hj⟩ := lab_at hs hn rfl hp
  obtain ⟨k, hrk, hk⟩ := lab_at hs hn rfl hr
  obtain ⟨o, ho, hpo⟩ := (lab_iff hs hp).1 hpj
  obtain ⟨s, hs1, hro⟩ := orbsTo_of n (List.mem_of_getElem? ho)
  subst hro
  obtain ⟨h1, h2⟩ := orb_same hs hs1 hp hpo
  obtain ⟨_, h3⟩ := orb_same hs hp hs1 h1
  rw [fz_at hpj, fz_at hrk]
  constructor
  · intro h
    have : j = k := by omega
    subst this
    obtain ⟨o', ho', hqo⟩ := (lab_iff hs hr).1 hrk
    rw [ho] at ho'
    injection ho' with ho'
    subst ho'
    exact h2 _ hqo
  · intro h
    have h4 := (lab_iff hs hr).2 ⟨_, ho, h3 _ h⟩
    rw [hrk] at h4
    injection h4 with h4
    exact h4.symm
theorem lab_onto7 (hs : okSys n ys = true) {j : Nat} (hj : j < (orbsTo ys n n).length) : ∃ f, f < n ∧ (labL ys n)[f]? = some (j : Int) := by
  have ho := List.getElem?_eq_getElem (l := orbsTo ys n n) hj
  obtain ⟨r, hr, hro⟩ := orbsTo_of n (List.mem_of_getElem? ho)
  exact ⟨r, hr, (lab_iff hs hr).2 ⟨_, ho, by rw [hro]; exact (orb_facts hs hr).2.1⟩⟩
/-- A permutation that commutes with all of a system leads its orbits to orbits. -/
theorem orb_comm7 (hs : okSys n ys = true) (hc : ∀ P ∈ ys, ∀ k : Nat, k < n → fz g (fz P k) = fz P (fz g k)) {p r : Nat} (hp : p < n) {u : Nat} (hu : fz g p = (u : Int)) (hun : u < n) (h : (r : Int) ∈ orbL ys n p) : fz g r ∈ orbL ys n u := by
  have hcl : Closed ys (((List.range n).map fun k : Nat => (k : Int)).filter fun x => decide (fz g x ∈ orbL ys n u)) := by
    intro P hP x hx
    obtain ⟨h1, h2⟩ := List.mem_filter.1 hx
    obtain ⟨k, hk, rfl⟩ := List.mem_map.1 h1
    have hk : k < n := by simpa using hk
    have h3 := of_decide_eq_true h2
    have h4 := sys_img hs hP (x := (k : Int)) (by omega) (by omega)
    obtain ⟨m, hm⟩ := Int.eq_ofNat_of_zero_le h4.1
    have h5 := (orb_facts hs hun).2.2 P hP _ h3
    rw [← hc P hP k hk, hm] at h5
    rw [hm]
    exact List.mem_filter.2 ⟨List.mem_map.2 ⟨m, by simp; omega, rfl⟩, decide_eq_true h5⟩
  have h0 := orb_sub (n := n) (q := p) hcl (List.mem_filter.2 ⟨List.mem_map.2 ⟨p, by simpa using hp, rfl⟩, decide_eq_true (by rw [hu]; exact (orb_facts hs hun).2.1)⟩) _ h
  exact of_decide_eq_true (List.mem_filter.1 h0).2
theorem lab_cons7 (hs : okSys n ys = true) (hn : 0 < n) (hgim : ∀ k : Nat, k < n → 0 ≤ fz g k ∧ fz g k < (n : Int)) (hc : ∀ P ∈ ys, ∀ k : Nat, k < n → fz g (fz P k) = fz P (fz g k)) {p r : Nat} (hp : p < n) (hr : r < n) (h : fz (labL ys n) p = fz (labL ys n) r) : fz (labL ys n) (fz g p) = fz (labL ys n) (fz g r) := by
  have h1 := (lab_same7 hs hn hp hr).1 h
  obtain ⟨u, hu⟩ := Int.eq_ofNat_of_zero_le (hgim p hp).1
  obtain ⟨v, hv⟩ := Int.eq_ofNat_of_zero_le (hgim r hr).1
  have hun : u < n := by have := (hgim p hp).2; omega
  have hvn : v < n := by have := (hgim r hr).2; omega
  have h2 := orb_comm7 hs hc hp hu hun h1
  rw [hv] at h2
  rw [hu, hv]
  exact (lab_same7 hs hn hun hvn).2 h2
/-- A move of the quotient. -/
def quRow (LB : List Int) (q : Nat) (g : List Int) : List Int := (List.range q).map fun (o : Nat) => fz LB (fz g (idxL LB (o : Int)))
theorem quRow_len : (quRow LB q g).length = q := by simp [quRow]
/-- What a row holds when the flags below f are gone through. -/
def QuR (LB : List Int) (q : Nat) (g : List Int) (f : Nat) (D : List Int) : Prop := D.length = q ∧ ∀ k : Nat, k < f → ∀ j : Nat, LB[k]? = some (j : Int) → D[j]? = some (fz LB (fz g k))
theorem quR_start : QuR LB q g 0 (List.replicate q 0) := ⟨by simp, fun k hk => by omega⟩
/-- The list of labels, its length, and what is known of it and of a move. -/
structure QuOk (n q : Nat) (LB g : List Int) : Prop where
  len : LB.length = n
  lt : ∀ f : Nat, f < n → ∃ j : Nat, j < q ∧ LB[f]? = some (j : Int)
  on : ∀ j : Nat, j < q → ∃ f : Nat, f < n ∧ LB[f]? = some (j : Int)
  cs : ∀ p r : Nat, p < n → r < n → fz LB p = fz LB r → fz LB (fz g p) = fz LB (fz g r)
theorem quRow_at (h : QuOk n q LB g) {f j : Nat} (hf : f < n) (hj : LB[f]? = some (j : Int)) : (quRow LB q g)[j]? = some (fz LB (fz g f)) := by
  obtain ⟨j', hj', he⟩ := h.lt f hf
  have : j' = j := by rw [hj] at he; injection he with he; omega
  subst this
  have hi := fz_idx (List.mem_of_getElem? hj)
  obtain ⟨a, ha⟩ := Int.eq_ofNat_of_zero_le hi.1
  rw [h.len] at hi
  have h2 := h.cs a f (by omega) hf (by rw [fz_at hj, ← ha]; exact hi.2.2)
  unfold quRow
  rw [List.getElem?_map, List.getElem?_range hj']
  simp only [Option.map_some]
  rw [ha, h2]
theorem quR_step (h : QuOk n q LB g) {D : List Int} {f j : Nat} (hf : f < n) (hD : QuR LB q g f D) (hj : LB[f]? = some (j : Int)) : QuR LB q g (f + 1) (D.set j (fz LB (fz g f))) := by
  obtain ⟨j', hj', he⟩ := h.lt f hf
  have : j' = j := by rw [hj] at he; injection he with he; omega
  subst this
  refine ⟨by simp [hD.1], fun k hk u hu => ?_⟩
  by_cases e : j' = u
  · subst e
    rw [List.getElem?_set_self (by rw [hD.1]; exact hj')]
    have h1 := quRow_at h hf hj
    have h2 := quRow_at h (show k < n by omega) hu
    rw [h1] at h2
    exact h2
  · rw [List.getElem?_set_ne e]
    rcases Nat.lt_succ_iff_lt_or_eq.1 hk with h1 | rfl
    · exact hD.2 k h1 u hu
    · rw [hj] at hu; injection hu with hu; omega
theorem quR_done (h : QuOk n q LB g) {D : List Int} (hD : QuR LB q g n D) : D = quRow LB q g := by
  apply List.ext_getElem?
  intro j
  by_cases hj : j < q
  · obtain ⟨f, hf, he⟩ := h.on j hj
    rw [hD.2 f hf j he, quRow_at h hf he]
  · rw [List.getElem?_eq_none (by rw [hD.1]; omega), List.getElem?_eq_none (by rw [quRow_len]; omega)]
/-- The moves of the quotient by a list of permutations. -/
def quL7 (xss PL : List (List Int)) : List (List Int) := xss.map (quRow (labL PL (flN xss)) (orbsTo PL (flN xss) (flN xss)).length)
theorem quL7_len {PL : List (List Int)} : (quL7 xss PL).length = xss.length := by simp [quL7]
/-- A list of at most 16 automorphisms. -/
noncomputable def auB7 (xss PL : List (List Int)) : Bool := decide (PL.length ≤ 16) && PL.all fun p => cvB7 xss xss p
theorem auB7_sys {PL : List (List Int)} (hm : IsMan xss) (h : auB7 xss PL = true) : okSys (flN xss) PL = true := by
  unfold auB7 at h
  simp only [Bool.and_eq_true, decide_eq_true_eq, List.all_eq_true] at h
  have hn : 0 < flN xss := by have := hm.f2; omega
  refine decide_eq_true ⟨by omega, by have := hm.f4; omega, h.1, fun p hp => ?_⟩
  have hc := cvr_hom (cvB7_iff.1 (h.2 p hp)).2
  exact ⟨by rw [hc.len], hom_ok hm.sys hm.sys rfl hn (fun _ hq => hm.all hq) hc⟩
theorem quOk7 {PL : List (List Int)} (hm : IsMan xss) (h : auB7 xss PL = true) (hg : g ∈ xss) : QuOk (flN xss) (orbsTo PL (flN xss) (flN xss)).length (labL PL (flN xss)) g := by
  have hs := auB7_sys hm h
  have hn : 0 < flN xss := by have := hm.f2; omega
  unfold auB7 at h
  simp only [Bool.and_eq_true, decide_eq_true_eq, List.all_eq_true] at h
  refine ⟨labL_length _ _, fun f hf => ?_, fun j hj => lab_onto7 hs hj, fun p r hp hr he => lab_cons7 hs hn (fun k hk => sys_img hm.sys hg (x := (k : Int)) (by omega) (by omega)) (fun P hP k hk => ?_) hp hr he⟩
  · obtain ⟨j, h1, h2⟩ := lab_at hs hn rfl hf
    exact ⟨j, h2, h1⟩
  · obtain ⟨i, hi, hgi⟩ := List.mem_iff_getElem.1 hg
    have hgi' : xss[i]? = some g := by rw [List.getElem?_eq_getElem hi, hgi]
    exact ((cvB7_iff.1 (h.2 P hP)).2.mv i g g hgi' hgi' k hk).symm
noncomputable def quR7 (xss PL : List (List Int)) : List (List Int) := if okMan xss = true ∧ auB7 xss PL = true ∧ okMan (quL7 xss PL) = true then quL7 xss PL else []
noncomputable def quC7 (xss PL : List (List Int)) : Int := if okMan xss = true then (if auB7 xss PL = true then (if okMan (quL7 xss PL) = true then 0 else 5) else 2) else 1
theorem quL7_rows {PL : List (List Int)} (hm : IsMan xss) (h : auB7 xss PL = true) : ∀ xs ∈ quL7 xss PL, (xs.length : Int) ≤ 1048576 := fun xs hx => by
  obtain ⟨g, _, rfl⟩ := List.mem_map.1 hx
  rw [quRow_len]
  have := (orbsTo_facts (auB7_sys hm h) (flN xss) (Nat.le_refl _)).2.2.1
  have := hm.f4
  omega
theorem quR7_le (xss PL : List (List Int)) : (quR7 xss PL).length ≤ 1048576 ∧ ∀ xs ∈ quR7 xss PL, (xs.length : Int) ≤ 1048576 := by
  unfold quR7
  split
  · rename_i h
    have hm := okMan_iff.1 h.1
    exact ⟨by rw [quL7_len]; have := hm.r5; omega, quL7_rows hm h.2.1⟩
  · simp
end
end Go.Proofs.Ytmgoaabeopnopaa
