/- Lattices; plain facts. -/
import Derived.Test.YtmgoaabeopnopaaPo
namespace Go.Proofs.Ytmgoaabeopnopaa

/-- The elements below or equal to the element k. -/
def lowL (bss : List (List Int)) (k : Nat) : List Int := bss.getD k [] ++ [(k : Int)]
/-- Of those of f, those that are below e. -/
def comL (bss : List (List Int)) (e f : Nat) : List Int := (lowL bss f).filter fun d => decide (d ∈ lowL bss e)
def MeetOk (bss : List (List Int)) (e f : Nat) : Prop := ∀ l, (comL bss e f).getLast? = some l → ∀ d ∈ comL bss e f, d ∈ lowL bss l.toNat
def MeetsOk (bss : List (List Int)) : Prop := ∀ e f : Nat, f < e → e < bss.length → MeetOk bss e f

theorem pw_ext : ∀ {a b : List Int}, a.Pairwise (· < ·) → b.Pairwise (· < ·) → (∀ x, x ∈ a ↔ x ∈ b) → a = b
  | [], [], _, _, _ => rfl
  | [], y :: b, _, _, h => absurd ((h y).2 (by simp)) (by simp)
  | x :: a, [], _, _, h => absurd ((h x).1 (by simp)) (by simp)
  | x :: a, y :: b, ha, hb, h => by
    obtain ⟨ha1, ha2⟩ := List.pairwise_cons.1 ha
    obtain ⟨hb1, hb2⟩ := List.pairwise_cons.1 hb
    have hxy : x = y := by
      have h1 := (h x).1 (by simp)
      have h2 := (h y).2 (by simp)
      rcases List.mem_cons.1 h1 with h1 | h1
      · exact h1
      · rcases List.mem_cons.1 h2 with h2 | h2
        · exact h2.symm
        · have := ha1 y h2; have := hb1 x h1; omega
    subst hxy
    rw [pw_ext ha2 hb2 fun z => ?_]
    constructor
    · intro hz
      rcases List.mem_cons.1 ((h z).1 (List.mem_cons.2 (.inr hz))) with h1 | h1
      · have := ha1 z hz; omega
      · exact h1
    · intro hz
      rcases List.mem_cons.1 ((h z).2 (List.mem_cons.2 (.inr hz))) with h1 | h1
      · have := hb1 z hz; omega
      · exact h1
section
variable {R : Int} {xs : List Int} {bss : List (List Int)} {e f : Nat}
theorem low_mem {d : Int} {b : List Int} (hb : bss[f]? = some b) : d ∈ lowL bss f ↔ d ∈ b ∨ d = (f : Int) := by
  unfold lowL
  rw [getD_some hb, List.mem_append, List.mem_singleton]
theorem low_len {b : List Int} (hb : bss[f]? = some b) : (lowL bss f).length = b.length + 1 := by
  unfold lowL
  rw [getD_some hb, List.length_append]; rfl
theorem low_bd (ok : OkPos R xs bss) (hf : f < bss.length) {d : Int} (hd : d ∈ lowL bss f) : ∃ j : Nat, d = (j : Int) ∧ j ≤ f := by
  obtain ⟨b, hb⟩ : ∃ b, bss[f]? = some b := ⟨_, List.getElem?_eq_getElem hf⟩
  rcases (low_mem hb).1 hd with h | h
  · obtain ⟨j, _, _, h1, h2, _⟩ := ok.el hb h
    exact ⟨j, h1, by omega⟩
  · exact ⟨f, h, Nat.le_refl _⟩
theorem row_pw (ok : OkPos R xs bss) {b : List Int} (hb : bss[f]? = some b) : b.Pairwise (· < ·) :=
  List.pairwise_iff_getElem.2 fun i j hi hj hij => (ok.rows f b hb).inc i j _ _ hij (List.getElem?_eq_getElem hi) (List.getElem?_eq_getElem hj)
theorem low_pw (ok : OkPos R xs bss) (hf : f < bss.length) : (lowL bss f).Pairwise (· < ·) := by
  obtain ⟨b, hb⟩ : ∃ b, bss[f]? = some b := ⟨_, List.getElem?_eq_getElem hf⟩
  unfold lowL
  rw [getD_some hb]
  refine List.pairwise_append.2 ⟨row_pw ok hb, by simp, fun x hx y hy => ?_⟩
  obtain ⟨j, _, _, h1, h2, _⟩ := ok.el hb hx
  simp at hy
  omega
theorem com_pw (ok : OkPos R xs bss) (hf : f < bss.length) : (comL bss e f).Pairwise (· < ·) := (low_pw ok hf).filter _
theorem com_mem {d : Int} : d ∈ comL bss e f ↔ d ∈ lowL bss f ∧ d ∈ lowL bss e := by
  unfold comL
  rw [List.mem_filter, decide_eq_true_eq]
theorem last_max {l : List Int} (h : l.Pairwise (· < ·)) {x : Int} (hx : l.getLast? = some x) : ∀ y ∈ l, y ≤ x := by
  intro y hy
  obtain ⟨l', rfl⟩ : ∃ l', l = l' ++ [x] := by
    obtain ⟨l', h1⟩ := List.getLast?_eq_some_iff.1 hx
    exact ⟨l', h1⟩
  obtain ⟨_, _, h3⟩ := List.pairwise_append.1 h
  rcases List.mem_append.1 hy with h4 | h4
  · have := h3 y h4 x (by simp); omega
  · simp at h4; omega
theorem low_trans (ok : OkPos R xs bss) (hf : f < bss.length) {j : Nat} (hj : (j : Int) ∈ lowL bss f) : ∀ d ∈ lowL bss j, d ∈ lowL bss f := by
  intro d hd
  obtain ⟨b, hb⟩ : ∃ b, bss[f]? = some b := ⟨_, List.getElem?_eq_getElem hf⟩
  have hjf : j ≤ f := by obtain ⟨k, h1, h2⟩ := low_bd ok hf hj; omega
  obtain ⟨c, hc⟩ : ∃ c, bss[j]? = some c := ⟨_, List.getElem?_eq_getElem (by omega)⟩
  rcases (low_mem hb).1 hj with h | h
  · rcases (low_mem hc).1 hd with h2 | h2
    · exact (low_mem hb).2 (.inl (ok.tr f b hb _ h j c rfl hc d h2))
    · exact (low_mem hb).2 (.inl (h2 ▸ h))
  · have : j = f := by omega
    subst this
    exact hd
/-- The program's test: the common elements are as many as those that the last of them has. -/
theorem meet_count (ok : OkPos R xs bss) (hf : f < bss.length) (he : e < bss.length) {l : Nat} (hl : (comL bss e f).getLast? = some (l : Int)) : MeetOk bss e f ↔ (comL bss e f).length = (lowL bss l).length := by
  have hlm : (l : Int) ∈ comL bss e f := List.mem_of_getLast? hl
  obtain ⟨h1, h2⟩ := com_mem.1 hlm
  have hlf : l ≤ f := by obtain ⟨k, h3, h4⟩ := low_bd ok hf h1; omega
  have hsub : ∀ d ∈ lowL bss l, d ∈ comL bss e f := fun d hd => com_mem.2 ⟨low_trans ok hf h1 d hd, low_trans ok he h2 d hd⟩
  have nd1 : (lowL bss l).Nodup := (low_pw ok (show l < bss.length by omega)).imp fun h => by omega
  have nd2 : (comL bss e f).Nodup := (com_pw ok hf).imp fun h => by omega
  have hle : (lowL bss l).length ≤ (comL bss e f).length := List.Nodup.length_le_of_subset nd1 hsub
  constructor
  · intro h
    have := List.Nodup.length_le_of_subset nd2 (fun d hd => by simpa using h _ hl d hd : ∀ d ∈ comL bss e f, d ∈ lowL bss l)
    omega
  · intro h l' hl' d hd
    rw [hl] at hl'
    injection hl' with hl'
    subst hl'
    apply Classical.byContradiction
    intro hn
    have hn' : ¬ d ∈ lowL bss l := by simpa using hn
    have := List.Nodup.length_le_of_subset (List.nodup_cons.2 ⟨hn', nd1⟩) (fun z hz => by
      rcases List.mem_cons.1 hz with rfl | hz
      · exact hd
      · exact hsub z hz : ∀ z ∈ d :: lowL bss l, z ∈ comL bss e f)
    simp at this
    omega
theorem meet_nil (h : (comL bss e f).length = 0) : MeetOk bss e f := fun l hl => by
  rw [List.eq_nil_of_length_eq_zero h] at hl
  simp at hl
/-- The model's list of common elements, up to k. -/
def cmS (bss : List (List Int)) (e f k : Nat) : List Int := ((List.range k).filter fun (d : Nat) => decide ((d = f ∨ (d : Int) ∈ bss.getD f []) ∧ (d : Int) ∈ bss.getD e [])).map fun (d : Nat) => (d : Int)
theorem cmS_succ {k : Nat} : cmS bss e f (k + 1) = cmS bss e f k ++ (if (k = f ∨ (k : Int) ∈ bss.getD f []) ∧ (k : Int) ∈ bss.getD e [] then [(k : Int)] else []) := by
  unfold cmS
  rw [List.range_succ, List.filter_append, List.map_append]
  congr 1
  by_cases h : (k = f ∨ (k : Int) ∈ bss.getD f []) ∧ (k : Int) ∈ bss.getD e []
  · rw [if_pos h, List.filter_cons_of_pos (p := fun (d : Nat) => decide ((d = f ∨ (d : Int) ∈ bss.getD f []) ∧ (d : Int) ∈ bss.getD e [])) (decide_eq_true h)]; rfl
  · rw [if_neg h, List.filter_cons_of_neg (p := fun (d : Nat) => decide ((d = f ∨ (d : Int) ∈ bss.getD f []) ∧ (d : Int) ∈ bss.getD e [])) (by rw [decide_eq_true_eq]; exact h)]; rfl
theorem cmS_len {k : Nat} : (cmS bss e f k).length ≤ k := by
  unfold cmS
  rw [List.length_map]
  exact Nat.le_trans (List.length_filter_le _ _) (by simp)
theorem cmS_bd {k : Nat} {x : Int} (h : x ∈ cmS bss e f k) : ∃ j : Nat, x = (j : Int) ∧ j < k := by
  obtain ⟨j, h1, rfl⟩ := List.mem_map.1 h
  have := (List.mem_filter.1 h1).1
  exact ⟨j, rfl, by simpa using this⟩
theorem cmS_all (ok : OkPos R xs bss) (hfe : f < e) (he : e < bss.length) : cmS bss e f (f + 1) = comL bss e f := by
  obtain ⟨b, hb⟩ : ∃ b, bss[f]? = some b := ⟨_, List.getElem?_eq_getElem (by omega)⟩
  obtain ⟨c, hc⟩ : ∃ c, bss[e]? = some c := ⟨_, List.getElem?_eq_getElem he⟩
  refine pw_ext ?_ (com_pw ok (by omega)) fun x => ?_
  · unfold cmS
    refine List.pairwise_map.2 (List.Pairwise.imp ?_ (List.Pairwise.filter _ (List.pairwise_lt_range (n := f + 1))))
    intro a b hab
    omega
  · rw [com_mem, low_mem hb, low_mem hc]
    unfold cmS
    rw [List.mem_map, getD_some hb, getD_some hc]
    constructor
    · rintro ⟨j, h1, rfl⟩
      obtain ⟨h2, h3⟩ := List.mem_filter.1 h1
      obtain ⟨h4, h5⟩ := of_decide_eq_true h3
      refine ⟨?_, .inl h5⟩
      rcases h4 with h4 | h4
      · exact .inr (by omega)
      · exact .inl h4
    · rintro ⟨h1, h2⟩
      have hj : ∃ j : Nat, x = (j : Int) ∧ j ≤ f := low_bd ok (by omega) ((low_mem hb).2 h1)
      obtain ⟨j, rfl, hj⟩ := hj
      have h5 : (j : Int) ∈ c := by
        rcases h2 with h2 | h2
        · exact h2
        · omega
      refine ⟨j, List.mem_filter.2 ⟨by simp; omega, decide_eq_true ⟨?_, h5⟩⟩, rfl⟩
      rcases h1 with h1 | h1
      · exact .inr h1
      · exact .inl (by omega)
/-- The model's test: all but the last one are below the last one. -/
theorem meet_all (ok : OkPos R xs bss) (hf : f < bss.length) : MeetOk bss e f ↔ ∀ (i : Nat) (x l : Int), i + 1 < (comL bss e f).length → (comL bss e f)[i]? = some x → (comL bss e f)[(comL bss e f).length - 1]? = some l → x ∈ bss.getD l.toNat [] := by
  constructor
  · intro h i x l hi hx hl
    have hl' : (comL bss e f).getLast? = some l := by rw [List.getLast?_eq_getElem?]; exact hl
    have h1 := h l hl' x (List.mem_of_getElem? hx)
    have hlt : x < l := by
      obtain ⟨hi1, rfl⟩ := List.getElem?_eq_some_iff.1 hx
      obtain ⟨hl1, rfl⟩ := List.getElem?_eq_some_iff.1 hl
      exact List.pairwise_iff_getElem.1 (com_pw ok hf) i _ hi1 hl1 (by omega)
    unfold lowL at h1
    rcases List.mem_append.1 h1 with h2 | h2
    · exact h2
    · obtain ⟨j, hj, _⟩ := low_bd ok hf (com_mem.1 (List.mem_of_getElem? hl)).1
      simp at h2
      omega
  · intro h l hl d hd
    obtain ⟨i, hi, rfl⟩ := List.mem_iff_getElem.1 hd
    obtain ⟨j, hj, _⟩ := low_bd ok hf (com_mem.1 (List.mem_of_getLast? hl)).1
    rw [List.getLast?_eq_getElem?] at hl
    unfold lowL
    by_cases he : i + 1 < (comL bss e f).length
    · exact List.mem_append.2 (.inl (h i _ l he (List.getElem?_eq_getElem hi) hl))
    · have : i = (comL bss e f).length - 1 := by omega
      subst this
      rw [List.getElem?_eq_getElem hi] at hl
      injection hl with hl
      refine List.mem_append.2 (.inr ?_)
      rw [hl, hj]
      simp
end
end Go.Proofs.Ytmgoaabeopnopaa
