import Derived.Test.YtjkddoiacifhpaaWd5
namespace Go.Proofs.Ytjkddoiacifhpaa
open Go.RowKit

/-- The first place of a number in a list, or -1. -/
def idxL (l : List Int) (x : Int) : Int := match l.findIdx? (fun y => y == x) with
  | some k => k
  | none => -1
theorem idxL_some {l : List Int} {x : Int} {k : Nat} (h : l[k]? = some x) (hn : ∀ j : Nat, j < k → l[j]? ≠ some x) : idxL l x = k := by
  obtain ⟨hk, hx⟩ := List.getElem?_eq_some_iff.1 h
  have : l.findIdx? (fun y => y == x) = some k := by
    rw [List.findIdx?_eq_some_iff_getElem]
    refine ⟨hk, by simp [hx], fun j hj => ?_⟩
    have h1 := hn j hj
    rw [List.getElem?_eq_getElem (by omega)] at h1
    simpa using h1
  unfold idxL
  rw [this]
theorem idxL_none {l : List Int} {x : Int} (hn : ∀ j : Nat, j < l.length → l[j]? ≠ some x) : idxL l x = -1 := by
  have : l.findIdx? (fun y => y == x) = none := by
    rw [List.findIdx?_eq_none_iff]
    intro y hy
    obtain ⟨j, hj, rfl⟩ := List.mem_iff_getElem.1 hy
    have h1 := hn j hj
    rw [List.getElem?_eq_getElem hj] at h1
    simpa using h1
  unfold idxL
  rw [this]
theorem idxL_mem (l : List Int) (x : Int) : decide (0 ≤ idxL l x) = decide (x ∈ l) := by
  unfold idxL
  split
  · rename_i k h
    rw [List.findIdx?_eq_some_iff_getElem] at h
    obtain ⟨hk, hx, _⟩ := h
    have hm : x ∈ l := by
      have : l[k] = x := by simpa using hx
      exact this ▸ List.getElem_mem hk
    simp [hm]
  · rename_i h
    rw [List.findIdx?_eq_none_iff] at h
    have hm : ¬ x ∈ l := fun hm => by have := h x hm; simp at this
    simp [hm]
theorem idxL_bd (l : List Int) (x : Int) : -1 ≤ idxL l x ∧ idxL l x < (l.length : Int) := by
  unfold idxL
  split
  · rename_i k h
    rw [List.findIdx?_eq_some_iff_getElem] at h
    obtain ⟨hk, _⟩ := h
    omega
  · omega

set_option maxHeartbeats 800000 in
theorem index_any {A : Option Addr} {c n : Nat} {l : List Int} (x : Int) (w : World) (hx : l.length = n) (ha : Rd w A (ints l)) (hn : n ≤ 1048576) :
    Calls Try.prog 219 #[.slice A n c, .int .i64 x] w fun e w' => e = .returned (.int .i64 (idxL l x)) ∧ w = w' := by
  have HX := Lib.hid hx
  have HA := Lib.hid ha
  clear hx ha
  go_enter Try.func219, Try.ntmps219
  go_wp2
  go_loop [5] (fun i => ∃ k : Nat, k ≤ n ∧ i = .int .i64 k ∧ ∀ j : Nat, j < k → l[j]? ≠ some x) (fun i => n - (intOf i).toNat)
  case atStart => exact ⟨0, Nat.zero_le _, rfl, fun j h => absurd h (by omega)⟩
  case round =>
    obtain ⟨k, hk, rfl, hall⟩ := hrel
    have HALL := Lib.hid hall
    clear hall
    by_cases hlt : k < n
    · obtain ⟨b, o, y, rfl, hgy, hcy⟩ := HA.out.int (k := k) (by rw [HX.out]; exact hlt)
      have HG := Lib.hid hgy
      clear hgy
      by_cases he : y = x
      · subst he
        have hb : (y == y) = true := by simp
        have HS := Lib.hid (idxL_some HG.out HALL.out)
        go_wp2
        go_ret
        exact ⟨ret_i64 HS.out.symm, rfl⟩
      · have hb : (y == x) = false := by rw [beq_eq_false_iff_ne]; exact he
        have HS := Lib.hid (show ∀ j : Nat, j < k + 1 → l[j]? ≠ some x from fun j hj => by
          rcases Nat.lt_succ_iff_lt_or_eq.1 hj with h | rfl
          · exact HALL.out j h
          · rw [HG.out]; intro h; injection h with h; exact he h)
        clear he
        go_wp2
        go_round
        case rel => exact ⟨k + 1, by omega, by go_num, HS.out⟩
        case measure => simp [intOf]; omega
    · have HS := Lib.hid (idxL_none (l := l) (x := x) fun j hj => HALL.out j (by rw [HX.out] at hj; omega))
      go_wp2
      go_ret
      exact ⟨ret_i64 HS.out.symm, rfl⟩
theorem has_any {A : Option Addr} {c n : Nat} {l : List Int} (x : Int) (w : World) (hx : l.length = n) (ha : Rd w A (ints l)) (hn : n ≤ 1048576) :
    Calls Try.prog 188 #[.slice A n c, .int .i64 x] w fun e w' => e = .returned (.bool (decide (x ∈ l))) ∧ w = w' := by
  have HX := Lib.hid hx
  have HA := Lib.hid ha
  have HM := Lib.hid (idxL_mem l x)
  have hbd := idxL_bd l x
  clear hx ha
  go_enter Try.func188, Try.ntmps188
  go_wp2_with fail
  refine (index_any x w HX.out HA.out hn).mono ?_
  rintro e w' ⟨rfl, rfl⟩
  go_wp2
  go_ret
  exact ⟨ret_bool HM.out, rfl⟩

/-- The elements whose places are not in a list. -/
def othTo {α : Type} (l : List α) (B : List Int) : Nat → List α
  | 0 => []
  | k + 1 => match l[k]? with
    | some x => if (k : Int) ∈ B then othTo l B k else othTo l B k ++ [x]
    | none => othTo l B k
theorem othTo_in {α : Type} {l : List α} {B : List Int} {k : Nat} {x : α} (h : l[k]? = some x) (hb : (k : Int) ∈ B) : othTo l B (k + 1) = othTo l B k := by rw [othTo, h]; simp [hb]
theorem othTo_out {α : Type} {l : List α} {B : List Int} {k : Nat} {x : α} (h : l[k]? = some x) (hb : ¬ (k : Int) ∈ B) : othTo l B (k + 1) = othTo l B k ++ [x] := by rw [othTo, h]; simp [hb]
theorem othTo_le {α : Type} (l : List α) (B : List Int) : ∀ k, (othTo l B k).length ≤ k
  | 0 => by simp [othTo]
  | k + 1 => by
    have := othTo_le l B k
    unfold othTo
    split
    · split
      · omega
      · simp; omega
    · omega
theorem othTo_mem {α : Type} {l : List α} {B : List Int} {x : α} : ∀ k, x ∈ othTo l B k → x ∈ l
  | 0, h => by simp [othTo] at h
  | k + 1, h => by
    unfold othTo at h
    split at h
    · rename_i y hy
      split at h
      · exact othTo_mem k h
      · rcases List.mem_append.1 h with h1 | h1
        · exact othTo_mem k h1
        · simp at h1; subst h1; exact List.mem_of_getElem? hy
    · exact othTo_mem k h
/-- Two lists that go together, place by place. -/
theorem othTo_rel {α β : Type} {l : List α} {m : List β} {R : α → β → Prop} (hl : l.length = m.length) (h : ∀ (j : Nat) (x : α) (y : β), l[j]? = some x → m[j]? = some y → R x y) (B : List Int) :
    ∀ k, (othTo l B k).length = (othTo m B k).length ∧ ∀ (j : Nat) (x : α) (y : β), (othTo l B k)[j]? = some x → (othTo m B k)[j]? = some y → R x y
  | 0 => by simp [othTo]
  | k + 1 => by
    obtain ⟨h1, h2⟩ := othTo_rel hl h B k
    by_cases hk : k < l.length
    · have hx := List.getElem?_eq_getElem hk
      have hy := List.getElem?_eq_getElem (show k < m.length by omega)
      by_cases hb : (k : Int) ∈ B
      · rw [othTo_in hx hb, othTo_in hy hb]; exact ⟨h1, h2⟩
      · rw [othTo_out hx hb, othTo_out hy hb]
        refine ⟨by simp [h1], fun j x y hjx hjy => ?_⟩
        by_cases hj : j < (othTo l B k).length
        · rw [List.getElem?_append_left hj] at hjx
          rw [List.getElem?_append_left (by omega)] at hjy
          exact h2 j x y hjx hjy
        · rw [List.getElem?_append_right (by omega)] at hjx
          rw [List.getElem?_append_right (by omega)] at hjy
          have hj0 : j - (othTo l B k).length = 0 := by have := (List.getElem?_eq_some_iff.1 hjx).1; simp at this; omega
          rw [hj0] at hjx
          rw [← h1, hj0] at hjy
          simp at hjx hjy
          subst hjx; subst hjy
          exact h k _ _ hx hy
    · have hx : l[k]? = none := List.getElem?_eq_none (by omega)
      have hy : m[k]? = none := List.getElem?_eq_none (by omega)
      have e1 : othTo l B (k + 1) = othTo l B k := by rw [othTo, hx]
      have e2 : othTo m B (k + 1) = othTo m B k := by rw [othTo, hy]
      rw [e1, e2]; exact ⟨h1, h2⟩
theorem othTo_one {α : Type} (l : List α) (i : Nat) : ∀ k, k ≤ l.length → othTo l [(i : Int)] k = if k ≤ i then l.take k else (l.take k).eraseIdx i
  | 0, _ => by simp [othTo]
  | k + 1, hk => by
    have hx := List.getElem?_eq_getElem (show k < l.length by omega)
    have ih := othTo_one l i k (by omega)
    by_cases e : k = i
    · subst e
      rw [othTo_in hx (by simp), ih, if_pos (Nat.le_refl _), if_neg (by omega)]
      rw [List.take_add_one, hx]
      simp only [Option.toList_some]
      rw [List.eraseIdx_append_of_length_le (by simp only [List.length_take]; omega)]
      have : k - (l.take k).length = 0 := by simp; omega
      rw [this]
      simp
    · rw [othTo_out hx (by simp; omega), ih]
      by_cases h2 : k ≤ i
      · rw [if_pos h2, if_pos (by omega), List.take_add_one, hx]; rfl
      · rw [if_neg h2, if_neg (by omega), List.take_add_one, hx]
        simp only [Option.toList_some]
        rw [List.eraseIdx_append_of_lt_length (by simp; omega)]
theorem othTo_all {α : Type} {l : List α} {i : Nat} (hi : i < l.length) : othTo l [(i : Int)] l.length = l.eraseIdx i := by
  rw [othTo_one l i _ (Nat.le_refl _), if_neg (by omega), List.take_of_length_le (Nat.le_refl _)]

set_option maxHeartbeats 3200000 in
theorem oth_any {b o c N bc g ob : Nat} {xss : List (List Int)} {B : List Int} (w : World) (hx : xss.length = N) (ha : RdSS w (some ⟨b, o, none⟩) xss) (hN : N ≤ 1048576) (hB : B.length = bc) (hrb : Rd w (some ⟨g, ob, none⟩) (ints B)) (hbc : bc ≤ 1048576) :
    Calls Try.prog 187 #[.agg #[.slice (some ⟨b, o, none⟩) N c], .slice (some ⟨g, ob, none⟩) bc bc] w fun e w' => ∃ A' c', e = .returned (.slice A' (othTo xss B N).length c') ∧ RdSS w' A' (othTo xss B N) ∧ Below w.heap.size w w' := by
  obtain ⟨vals, hv1, hv2, hv3⟩ := ha
  have hrel := othTo_rel (l := vals) (m := xss) (R := fun v xs => ∃ (A' : Option Addr) (c' : Nat), v = Value.slice A' xs.length c' ∧ Rd w A' (ints xs) ∧ xs.length ≤ 9223372036854775807) hv2 (fun j v xs h1 h2 => by
    obtain ⟨A', c', h3, h4, h5⟩ := hv3 j xs h2
    rw [h1] at h3
    injection h3 with h3
    exact ⟨A', c', h3, h4, h5⟩) B N
  have HREL := Lib.hid hrel
  have HX := Lib.hid hx
  have HB := Lib.hid hB
  have HRB := Lib.hid hrb
  have HV := Lib.hid hv1
  have HV2 := Lib.hid hv2
  have HV3 := Lib.hid hv3
  have BX0 := Lib.hid (Bx.start w (.slice (some ⟨b, o, none⟩) N c) 51)
  clear hx hB hrb hv1 hv2 hv3 hrel
  go_enter Try.func187, Try.ntmps187
  go_wp2
  go_loopw [5, 6] (fun v i wr => ∃ (k m : Nat) (A' : Option Addr) (c' : Nat), k ≤ N ∧ i = .int .i64 k ∧ v = .slice A' m c' ∧ m ≤ k ∧ wr.ownsRow (w.heap.size + 1) 24 1 (.slice A' m c') m (othTo vals B k) ∧ Bx w wr (.slice (some ⟨b, o, none⟩) N c) 51) (fun _ i _ => N - (intOf i).toNat)
  case atStart => exact ⟨0, 0, _, _, Nat.zero_le _, rfl, rfl, Nat.le_refl _, by simpa [othTo] using World.ownsRow_made (base := w.heap.size + 1) (e := 24) (size := 1) (w.alloc (.cells #[.slice (some ⟨b, o, none⟩) N c] 51)) #[] 0 (by simp) (Nat.zero_le _) (by simp), BX0.out.al _⟩
  case round =>
    obtain ⟨k, m, A', c', hk, rfl, rfl, hm, own, bx⟩ := hrel
    have OWN := Lib.hid own
    have BX := Lib.hid bx
    have hbc1 := bx.cell
    clear own bx BX0
    by_cases hlt : k < N
    · obtain ⟨v, hv⟩ : ∃ v, vals[k]? = some v := ⟨_, List.getElem?_eq_getElem (by rw [HV2.out, HX.out]; exact hlt)⟩
      obtain ⟨xs, hxs⟩ : ∃ xs, xss[k]? = some xs := ⟨_, List.getElem?_eq_getElem (by rw [HX.out]; exact hlt)⟩
      obtain ⟨A2, c2, hv', _, _⟩ := HV3.out k xs hxs
      rw [hv] at hv'
      injection hv' with hv'
      subst hv'
      obtain ⟨b3, o3, he, hcc⟩ := HV.out (by rw [HV2.out, HX.out]; omega)
      obtain ⟨rfl, rfl⟩ : b = b3 ∧ o = o3 := by simpa using he
      have hcell := cell_be (hcc k _ hv) BX.out.below
      obtain ⟨l, hl⟩ : ∃ l, xs.length = l := ⟨_, rfl⟩
      rw [hl] at hcell hv
      clear he hcc hxs hl
      have HVK := Lib.hid hv
      clear hv
      by_cases hin : (k : Int) ∈ B
      · have HD := Lib.hid (show decide ((k : Int) ∈ B) = true from decide_eq_true hin)
        have HE := Lib.hid (othTo_in HVK.out hin)
        clear hin
        go_wp2_with fail
        refine (has_any _ wr HB.out (HRB.out.keep BX.out.below) hbc).mono ?_
        rintro e w' ⟨rfl, rfl⟩
        rw [HD.out]
        go_wp2
        go_roundw
        case rel => exact ⟨k + 1, m, A', c', by omega, by go_num, rfl, by omega, by rw [HE.out]; exact OWN.out, BX.out⟩
        case measure => simp [intOf]; omega
      · have HD := Lib.hid (show decide ((k : Int) ∈ B) = false from decide_eq_false hin)
        have HE := Lib.hid (othTo_out HVK.out hin)
        have hsz := BX.out.size
        clear hin
        go_wp2_with fail
        refine (has_any _ wr HB.out (HRB.out.keep BX.out.below) hbc).mono ?_
        rintro e w' ⟨rfl, rfl⟩
        rw [HD.out]
        go_wp2_with (at_builtin; refine wpList_push2 _ rfl _ _ 35 24 rfl Try.underlying35 (.slice none 0 0) 24 Try.infoS rfl (w.heap.size + 1) _ _ _ rfl OWN.out _ rfl rfl (by omega) (by omega) (by omega) ?_)
        intro A5 c5 w5 own5 gr5
        have OWN5 := Lib.hid own5
        have BX5 := Lib.hid (show Bx w w5 (.slice (some ⟨b, o, none⟩) N c) 51 from ⟨(BX.out.bel.alloc (by omega) _).grown gr5 (by simp; omega) fun q hq => (OWN.out.lt q hq).1⟩)
        clear own5 gr5
        go_wp2
        go_roundw
        case rel => exact ⟨k + 1, m + 1, A5, c5, by omega, by go_num, rfl, by omega, by rw [HE.out]; exact OWN5.out, BX5.out⟩
        case measure => simp [intOf]; omega
    · obtain rfl : k = N := by omega
      obtain ⟨hr1, hr2⟩ := HREL.out
      have hml : m = (othTo xss B k).length := by have := OWN.out.1; omega
      have HML := Lib.hid hml
      clear hml hr1 hr2
      go_wp2
      go_ret
      obtain ⟨hr1, hr2⟩ := HREL.out
      refine ⟨A', c', by rw [← HML.out]; rfl, ⟨othTo vals B k, own_rd OWN.out, hr1, fun j xs hj => ?_⟩, BX.out.below⟩
      have hjl := (List.getElem?_eq_some_iff.1 hj).1
      obtain ⟨A3, c3, h3, h4, h5⟩ := hr2 j _ xs (List.getElem?_eq_getElem (by omega)) hj
      exact ⟨A3, c3, by rw [List.getElem?_eq_getElem (by omega), h3], h4.keep BX.out.below, h5⟩
end Go.Proofs.Ytjkddoiacifhpaa
