import Derived.Test.YtmgoaabeopnopaaL7
import Derived.Lib.AppendZerosOnto
import Derived.Lib.SliceRun
import Derived.IntWalk
namespace Go.Proofs.Ytmgoaabeopnopaa
open Go.RowKit

/-- The first place of a number in a list, or -1. -/
def idxL (l : List Int) (x : Int) : Int := match l.findIdx? (fun y => y == x) with
  | some k => k
  | none => -1
theorem idxL_some {l : List Int} {x : Int} {k : Nat} (h : l[k]? = some x) (hn : ∀ j : Nat, j < k → l[j]? ≠ some x) : idxL l x = k := by
  obtain ⟨hk, hx⟩ := List.getElem?_eq_some_iff.1 h
  have : l.findIdx? (fun y => y == x) = some k := by
    rw [List.findIdx?_eq_some_iff_getElem]
    refine ⟨hk, by simp [hx], fun j hj => ?_⟩
    have h1 := hn j hj
    rw [List.getElem?_eq_getElem (by omega)] at h1
    simpa using h1
  unfold idxL
  rw [this]
theorem idxL_none {l : List Int} {x : Int} (hn : ∀ j : Nat, j < l.length → l[j]? ≠ some x) : idxL l x = -1 := by
  have : l.findIdx? (fun y => y == x) = none := by
    rw [List.findIdx?_eq_none_iff]
    intro y hy
    obtain ⟨j, hj, rfl⟩ := List.mem_iff_getElem.1 hy
    have h1 := hn j hj
    rw [List.getElem?_eq_getElem hj] at h1
    simpa using h1
  unfold idxL
  rw [this]
theorem idxL_mem (l : List Int) (x : Int) : decide (0 ≤ idxL l x) = decide (x ∈ l) := by
  unfold idxL
  split
  · rename_i k h
    rw [List.findIdx?_eq_some_iff_getElem] at h
    obtain ⟨hk, hx, _⟩ := h
    have hm : x ∈ l := by
      have : l[k] = x := by simpa using hx
      exact this ▸ List.getElem_mem hk
    simp [hm]
  · rename_i h
    rw [List.findIdx?_eq_none_iff] at h
    have hm : ¬ x ∈ l := fun hm => by have := h x hm; simp at this
    simp [hm]
theorem idxL_bd (l : List Int) (x : Int) : -1 ≤ idxL l x ∧ idxL l x < (l.length : Int) := by
  unfold idxL
  split
  · rename_i k h
    rw [List.findIdx?_eq_some_iff_getElem] at h
    obtain ⟨hk, _⟩ := h
    omega
  · omega

set_option maxHeartbeats 800000 in
theorem index_any {A : Option Addr} {c n : Nat} {l : List Int} (x : Int) (w : World) (hx : l.length = n) (ha : Rd w A (ints l)) (hn : n ≤ 1048576) :
    Calls Try.prog 137 #[.slice A n c, .int .i64 x] w fun e w' => e = .returned (.int .i64 (idxL l x)) ∧ w = w' := by
  have HX := Lib.hid hx
  have HA := Lib.hid ha
  clear hx ha
  go_enter Try.func137, Try.ntmps137
  go_wp2
  go_loop [5] (fun i => ∃ k : Nat, k ≤ n ∧ i = .int .i64 k ∧ ∀ j : Nat, j < k → l[j]? ≠ some x) (fun i => n - (intOf i).toNat)
  case atStart => exact ⟨0, Nat.zero_le _, rfl, fun j h => absurd h (by omega)⟩
  case round =>
    obtain ⟨k, hk, rfl, hall⟩ := hrel
    have HALL := Lib.hid hall
    clear hall
    by_cases hlt : k < n
    · obtain ⟨b, o, y, rfl, hgy, hcy⟩ := HA.out.int (k := k) (by rw [HX.out]; exact hlt)
      have HG := Lib.hid hgy
      clear hgy
      by_cases he : y = x
      · subst he
        have hb : (y == y) = true := by simp
        have HS := Lib.hid (idxL_some HG.out HALL.out)
        go_wp2
        go_ret
        exact ⟨ret_i64 HS.out.symm, rfl⟩
      · have hb : (y == x) = false := by rw [beq_eq_false_iff_ne]; exact he
        have HS := Lib.hid (show ∀ j : Nat, j < k + 1 → l[j]? ≠ some x from fun j hj => by
          rcases Nat.lt_succ_iff_lt_or_eq.1 hj with h | rfl
          · exact HALL.out j h
          · rw [HG.out]; intro h; injection h with h; exact he h)
        clear he
        go_wp2
        go_round
        case rel => exact ⟨k + 1, by omega, by go_num, HS.out⟩
        case measure => simp [intOf]; omega
    · have HS := Lib.hid (idxL_none (l := l) (x := x) fun j hj => HALL.out j (by rw [HX.out] at hj; omega))
      go_wp2
      go_ret
      exact ⟨ret_i64 HS.out.symm, rfl⟩
theorem has_any {A : Option Addr} {c n : Nat} {l : List Int} (x : Int) (w : World) (hx : l.length = n) (ha : Rd w A (ints l)) (hn : n ≤ 1048576) :
    Calls Try.prog 130 #[.slice A n c, .int .i64 x] w fun e w' => e = .returned (.bool (decide (x ∈ l))) ∧ w = w' := by
  have HX := Lib.hid hx
  have HA := Lib.hid ha
  have HM := Lib.hid (idxL_mem l x)
  have hbd := idxL_bd l x
  clear hx ha
  go_enter Try.func130, Try.ntmps130
  go_wp2_with fail
  refine (index_any x w HX.out HA.out hn).mono ?_
  rintro e w' ⟨rfl, rfl⟩
  go_wp2
  go_ret
  exact ⟨ret_bool HM.out, rfl⟩

/-- The elements whose places are not in a list. -/
def othTo {α : Type} (l : List α) (B : List Int) : Nat → List α
  | 0 => []
  | k + 1 => match l[k]? with
    | some x => if (k : Int) ∈ B then othTo l B k else othTo l B k ++ [x]
    | none => othTo l B k
theorem othTo_in {α : Type} {l : List α} {B : List Int} {k : Nat} {x : α} (h : l[k]? = some x) (hb : (k : Int) ∈ B) : othTo l B (k + 1) = othTo l B k := by rw [othTo, h]; simp [hb]
theorem othTo_out {α : Type} {l : List α} {B : List Int} {k : Nat} {x : α} (h : l[k]? = some x) (hb : ¬ (k : Int) ∈ B) : othTo l B (k + 1) = othTo l B k ++ [x] := by rw [othTo, h]; simp [hb]
theorem othTo_le {α : Type} (l : List α) (B : List Int) : ∀ k, (othTo l B k).length ≤ k
  | 0 => by simp [othTo]
  | k + 1 => by
    have := othTo_le l B k
    unfold othTo
    split
    · split
      · omega
      · simp; omega
    · omega
theorem othTo_mem {α : Type} {l : List α} {B : List Int} {x : α} : ∀ k, x ∈ othTo l B k → x ∈ l
  | 0, h => by simp [othTo] at h
  | k + 1, h => by
    unfold othTo at h
    split at h
    · rename_i y hy
      split at h
      · exact othTo_mem k h
      · rcases List.mem_append.1 h with h1 | h1
        · exact othTo_mem k h1
        · simp at h1; subst h1; exact List.mem_of_getElem? hy
    · exact othTo_mem k h
/-- Two lists that go together, place by place. -/
theorem othTo_rel {α β : Type} {l : List α} {m : List β} {R : α → β → Prop} (hl : l.length = m.length) (h : ∀ (j : Nat) (x : α) (y : β), l[j]? = some x → m[j]? = some y → R x y) (B : List Int) :
    ∀ k, (othTo l B k).length = (othTo m B k).length ∧ ∀ (j : Nat) (x : α) (y : β), (othTo l B k)[j]? = some x → (othTo m B k)[j]? = some y → R x y
  | 0 => by simp [othTo]
  | k + 1 => by
    obtain ⟨h1, h2⟩ := othTo_rel hl h B k
    by_cases hk : k < l.length
    · have hx := List.getElem?_eq_getElem hk
      have hy := List.getElem?_eq_getElem (show k < m.length by omega)
      by_cases hb : (k : Int) ∈ B
      · rw [othTo_in hx hb, othTo_in hy hb]; exact ⟨h1, h2⟩
      · rw [othTo_out hx hb, othTo_out hy hb]
        refine ⟨by simp [h1], fun j x y hjx hjy => ?_⟩
        by_cases hj : j < (othTo l B k).length
        · rw [List.getElem?_append_left hj] at hjx
          rw [List.getElem?_append_left (by omega)] at hjy
          exact h2 j x y hjx hjy
        · rw [List.getElem?_append_right (by omega)] at hjx
          rw [List.getElem?_append_right (by omega)] at hjy
          have hj0 : j - (othTo l B k).length = 0 := by have := (List.getElem?_eq_some_iff.1 hjx).1; simp at this; omega
          rw [hj0] at hjx
          rw [← h1, hj0] at hjy
          simp at hjx hjy
          subst hjx; subst hjy
          exact h k _ _ hx hy
    · have hx : l[k]? = none := List.getElem?_eq_none (by omega)
      have hy : m[k]? = none := List.getElem?_eq_none (by omega)
      have e1 : othTo l B (k + 1) = othTo l B k := by rw [othTo, hx]
      have e2 : othTo m B (k + 1) = othTo m B k := by rw [othTo, hy]
      rw [e1, e2]; exact ⟨h1, h2⟩
theorem othTo_one {α : Type} (l : List α) (i : Nat) : ∀ k, k ≤ l.length → othTo l [(i : Int)] k = if k ≤ i then l.take k else (l.take k).eraseIdx i
  | 0, _ => by simp [othTo]
  | k + 1, hk => by
    have hx := List.getElem?_eq_getElem (show k < l.length by omega)
    have ih := othTo_one l i k (by omega)
    by_cases e : k = i
    · subst e
      rw [othTo_in hx (by simp), ih, if_pos (Nat.le_refl _), if_neg (by omega)]
      rw [List.take_add_one, hx]
      simp only [Option.toList_some]
      rw [List.eraseIdx_append_of_length_le (by simp only [List.length_take]; omega)]
      have : k - (l.take k).length = 0 := by simp; omega
      rw [this]
      simp
    · rw [othTo_out hx (by simp; omega), ih]
      by_cases h2 : k ≤ i
      · rw [if_pos h2, if_pos (by omega), List.take_add_one, hx]; rfl
      · rw [if_neg h2, if_neg (by omega), List.take_add_one, hx]
        simp only [Option.toList_some]
        rw [List.eraseIdx_append_of_lt_length (by simp; omega)]
theorem othTo_all {α : Type} {l : List α} {i : Nat} (hi : i < l.length) : othTo l [(i : Int)] l.length = l.eraseIdx i := by
  rw [othTo_one l i _ (Nat.le_refl _), if_neg (by omega), List.take_of_length_le (Nat.le_refl _)]

set_option maxHeartbeats 3200000 in
theorem oth_any {b o c N bc g ob : Nat} {xss : List (List Int)} {B : List Int} (w : World) (hx : xss.length = N) (ha : RdSS w (some ⟨b, o, none⟩) xss) (hN : N ≤ 1048576) (hB : B.length = bc) (hrb : Rd w (some ⟨g, ob, none⟩) (ints B)) (hbc : bc ≤ 1048576) :
    Calls Try.prog 153 #[.agg #[.slice (some ⟨b, o, none⟩) N c], .slice (some ⟨g, ob, none⟩) bc bc] w fun e w' => ∃ A' c', e = .returned (.slice A' (othTo xss B N).length c') ∧ RdSS w' A' (othTo xss B N) ∧ Below w.heap.size w w' := by
  obtain ⟨vals, hv1, hv2, hv3⟩ := ha
  have hrel := othTo_rel (l := vals) (m := xss) (R := fun v xs => ∃ (A' : Option Addr) (c' : Nat), v = Value.slice A' xs.length c' ∧ Rd w A' (ints xs) ∧ xs.length ≤ 9223372036854775807) hv2 (fun j v xs h1 h2 => by
    obtain ⟨A', c', h3, h4, h5⟩ := hv3 j xs h2
    rw [h1] at h3
    injection h3 with h3
    exact ⟨A', c', h3, h4, h5⟩) B N
  have HREL := Lib.hid hrel
  have HX := Lib.hid hx
  have HB := Lib.hid hB
  have HRB := Lib.hid hrb
  have HV := Lib.hid hv1
  have HV2 := Lib.hid hv2
  have HV3 := Lib.hid hv3
  have BX0 := Lib.hid (Bx.start w (.slice (some ⟨b, o, none⟩) N c) 27)
  clear hx hB hrb hv1 hv2 hv3 hrel
  go_enter Try.func153, Try.ntmps153
  go_wp2
  go_loopw [5, 6] (fun v i wr => ∃ (k m : Nat) (A' : Option Addr) (c' : Nat), k ≤ N ∧ i = .int .i64 k ∧ v = .slice A' m c' ∧ m ≤ k ∧ wr.ownsRow (w.heap.size + 1) 36 1 (.slice A' m c') m (othTo vals B k) ∧ Bx w wr (.slice (some ⟨b, o, none⟩) N c) 27) (fun _ i _ => N - (intOf i).toNat)
  case atStart => exact ⟨0, 0, _, _, Nat.zero_le _, rfl, rfl, Nat.le_refl _, by simpa [othTo] using World.ownsRow_made (base := w.heap.size + 1) (e := 36) (size := 1) (w.alloc (.cells #[.slice (some ⟨b, o, none⟩) N c] 27)) #[] 0 (by simp) (Nat.zero_le _) (by simp), BX0.out.al _⟩
  case round =>
    obtain ⟨k, m, A', c', hk, rfl, rfl, hm, own, bx⟩ := hrel
    have OWN := Lib.hid own
    have BX := Lib.hid bx
    have hbc1 := bx.cell
    clear own bx BX0
    by_cases hlt : k < N
    · obtain ⟨v, hv⟩ : ∃ v, vals[k]? = some v := ⟨_, List.getElem?_eq_getElem (by rw [HV2.out, HX.out]; exact hlt)⟩
      obtain ⟨xs, hxs⟩ : ∃ xs, xss[k]? = some xs := ⟨_, List.getElem?_eq_getElem (by rw [HX.out]; exact hlt)⟩
      obtain ⟨A2, c2, hv', _, _⟩ := HV3.out k xs hxs
      rw [hv] at hv'
      injection hv' with hv'
      subst hv'
      obtain ⟨b3, o3, he, hcc⟩ := HV.out (by rw [HV2.out, HX.out]; omega)
      obtain ⟨rfl, rfl⟩ : b = b3 ∧ o = o3 := by simpa using he
      have hcell := cell_be (hcc k _ hv) BX.out.below
      obtain ⟨l, hl⟩ : ∃ l, xs.length = l := ⟨_, rfl⟩
      rw [hl] at hcell hv
      clear he hcc hxs hl
      have HVK := Lib.hid hv
      clear hv
      by_cases hin : (k : Int) ∈ B
      · have HD := Lib.hid (show decide ((k : Int) ∈ B) = true from decide_eq_true hin)
        have HE := Lib.hid (othTo_in HVK.out hin)
        clear hin
        go_wp2_with fail
        refine (has_any _ wr HB.out (HRB.out.keep BX.out.below) hbc).mono ?_
        rintro e w' ⟨rfl, rfl⟩
        rw [HD.out]
        go_wp2
        go_roundw
        case rel => exact ⟨k + 1, m, A', c', by omega, by go_num, rfl, by omega, by rw [HE.out]; exact OWN.out, BX.out⟩
        case measure => simp [intOf]; omega
      · have HD := Lib.hid (show decide ((k : Int) ∈ B) = false from decide_eq_false hin)
        have HE := Lib.hid (othTo_out HVK.out hin)
        have hsz := BX.out.size
        clear hin
        go_wp2_with fail
        refine (has_any _ wr HB.out (HRB.out.keep BX.out.below) hbc).mono ?_
        rintro e w' ⟨rfl, rfl⟩
        rw [HD.out]
        go_wp2_with (at_builtin; refine wpList_push2 _ rfl _ _ 22 36 rfl Try.underlying22 (.slice none 0 0) 24 Try.infoS rfl (w.heap.size + 1) _ _ _ rfl OWN.out _ rfl rfl (by omega) (by omega) (by omega) ?_)
        intro A5 c5 w5 own5 gr5
        have OWN5 := Lib.hid own5
        have BX5 := Lib.hid (show Bx w w5 (.slice (some ⟨b, o, none⟩) N c) 27 from ⟨(BX.out.bel.alloc (by omega) _).grown gr5 (by simp; omega) fun q hq => (OWN.out.lt q hq).1⟩)
        clear own5 gr5
        go_wp2
        go_roundw
        case rel => exact ⟨k + 1, m + 1, A5, c5, by omega, by go_num, rfl, by omega, by rw [HE.out]; exact OWN5.out, BX5.out⟩
        case measure => simp [intOf]; omega
    · obtain rfl : k = N := by omega
      obtain ⟨hr1, hr2⟩ := HREL.out
      have hml : m = (othTo xss B k).length := by have := OWN.out.1; omega
      have HML := Lib.hid hml
      clear hml hr1 hr2
      go_wp2
      go_ret
      obtain ⟨hr1, hr2⟩ := HREL.out
      refine ⟨A', c', by rw [← HML.out]; rfl, ⟨othTo vals B k, own_rd OWN.out, hr1, fun j xs hj => ?_⟩, BX.out.below⟩
      have hjl := (List.getElem?_eq_some_iff.1 hj).1
      obtain ⟨A3, c3, h3, h4, h5⟩ := hr2 j _ xs (List.getElem?_eq_getElem (by omega)) hj
      exact ⟨A3, c3, by rw [List.getElem?_eq_getElem (by omega), h3], h4.keep BX.out.below, h5⟩
end Go.Proofs.Ytmgoaabeopnopaa
namespace Go.Proofs.Ytmgoaabeopnopaa
open Go.RowKit Go.Lib

theorem zc_size (v : Value) (k : Nat) : (Builtin.zeroCells #[v] k).size = k := by
  unfold Builtin.zeroCells
  simp
set_option maxHeartbeats 2000000 in
theorem grow_any (n : Nat) (w : World) (hn : n ≤ 1048576) :
    Calls Try.prog 180 #[.slice none 0 0, .int .i64 n] w fun e w' => ∃ A c, e = .returned (.slice A 0 c) ∧ w'.ownsRow w.heap.size 36 1 (.slice A 0 c) 0 [] ∧ Below w.heap.size w w' := by
  by_cases h0 : n = 0
  · subst h0
    go_enter Try.func180, Try.ntmps180
    go_wp2
    go_ret
    exact ⟨none, 0, rfl, World.ownsRow_nil _ _ _ _, Below.refl _ _⟩
  · obtain ⟨i, hi, hzz⟩ := Option.map_eq_some_iff.1 Try.infoS
    simp only [Prod.mk.injEq] at hzz
    obtain ⟨hz, hs1, hb1⟩ := hzz
    have hrz : ∀ ty, (Builtin.append_ #[22, 3] ty #[.slice none 0 0, .int .i64 (n : Int)]).run Try.prog w =
        .ok (.slice (some ⟨w.heap.size, 0, none⟩) n (grownCap w n 0 36)) (w.drew.alloc (.cells (([] : List Value).toArray ++ Builtin.zeroCells (Value.slice none 0 0).cells n ++ Builtin.zeroCells (Value.slice none 0 0).cells (grownCap w n 0 36 - n)) 36)) := fun ty => by
      have h := Lib.run_append_grow_zeros (P := Try.prog) w 22 3 ty 36 i (.slice none 0 0) .i64 .i64 Try.underlying22 Try.underlying3 hi hz none 0 0 [] (run_firstCells_none w.drew i.size 0 0 0) n (by omega) (by omega) (by omega) (by omega) (by rw [hb1]; omega) (by rw [Nat.zero_add]; exact growslice_fits (by omega) (by rw [hb1]; omega))
      simpa using h
    have hge := grownCap_ge w n 0 36
    have hle := grownCap_le_maxLen w n 0 36 (by unfold maxLen; omega)
    obtain ⟨G, hG⟩ : ∃ G, G = grownCap w n 0 36 := ⟨_, rfl⟩
    rw [← hG] at hrz hge hle
    unfold maxLen at hle
    have h1 : ¬ ((n : Int) < 0) := by omega
    have h2 : (n : Int) > 0 := by omega
    clear hG hz hs1 hb1 hi
    go_enter Try.func180, Try.ntmps180
    go_wp2_with (at_builtin; refine Lib.wpList_append_run _ rfl _ _ _ _ rfl _ _ rfl rfl _ _ (hrz _) ?_)
    go_ret
    refine ⟨_, G, rfl, ⟨by simp, .inr ⟨w.heap.size, G, _, rfl, Nat.le_refl _, heap_alloc_new w.drew _, Nat.zero_le _, by unfold maxLen; omega, ?_, by simp⟩⟩, below_drewN (Below.refl _ _) 1 |>.alloc (by simp) _⟩
    simp [zc_size]
    omega

/-- How many elements the first j of two lists have. -/
def twoTo (n1 n2 : Nat) : Nat → Nat
  | 0 => 0
  | 1 => n1
  | _ => n1 + n2
def twoL {α : Type} (l1 l2 : List α) : Nat → List α
  | 0 => []
  | 1 => l1
  | _ => l1 ++ l2
theorem rows_one {w : World} {xss : List (List Int)} {vals : List Value} (hl : vals.length = xss.length)
    (h : ∀ (j : Nat) (xs : List Int), xss[j]? = some xs → ∃ (A' : Option Addr) (c' : Nat), vals[j]? = some (Value.slice A' xs.length c') ∧ Rd w A' (ints xs) ∧ xs.length ≤ 9223372036854775807) : ∀ u ∈ vals, u.oneCell' = true := by
  intro u hu
  obtain ⟨j, hj, rfl⟩ := List.mem_iff_getElem.1 hu
  obtain ⟨A', c', h1, _, _⟩ := h j _ (List.getElem?_eq_getElem (by omega))
  rw [List.getElem?_eq_getElem hj] at h1
  injection h1 with h1
  rw [h1]
  rfl
/-- One of two slices: its rows, where they lie. -/
structure Part (w : World) (b o n c : Nat) (xss : List (List Int)) (vals : List Value) : Prop where
  lv : vals.length = n
  lx : xss.length = n
  cell : ∀ k u, vals[k]? = some u → w.cell? ⟨b, o + k, none⟩ = some u
  row : ∀ (j : Nat) (xs : List Int), xss[j]? = some xs → ∃ (A' : Option Addr) (c' : Nat), vals[j]? = some (Value.slice A' xs.length c') ∧ Rd w A' (ints xs) ∧ xs.length ≤ 9223372036854775807
theorem part_of {w : World} {b o n c : Nat} {xss : List (List Int)} (hl : xss.length = n) (h : RdSS w (some ⟨b, o, none⟩) xss) : ∃ vals, Part w b o n c xss vals := by
  obtain ⟨vals, h1, h2, h3⟩ := h
  refine ⟨vals, by omega, hl, fun k u hu => ?_, h3⟩
  obtain ⟨b', o', he, hc⟩ := h1 (by have := (List.getElem?_eq_some_iff.1 hu).1; omega)
  obtain ⟨rfl, rfl⟩ : b = b' ∧ o = o' := by simpa using he
  exact hc k u hu
theorem Part.keep {w w' : World} {b o n c : Nat} {xss : List (List Int)} {vals : List Value} (h : Part w b o n c xss vals) (hb : Below w.heap.size w w') : Part w' b o n c xss vals :=
  ⟨h.lv, h.lx, fun k u hu => cell_be (h.cell k u hu) hb, fun j xs hj => by obtain ⟨A', c', h1, h2, h3⟩ := h.row j xs hj; exact ⟨A', c', h1, h2.keep hb, h3⟩⟩
theorem two_rd {w : World} {b1 o1 n1 c1 b2 o2 n2 c2 : Nat} {x1 x2 : List (List Int)} {v1 v2 : List Value} {A : Option Addr} (h1 : Part w b1 o1 n1 c1 x1 v1) (h2 : Part w b2 o2 n2 c2 x2 v2) (h : Rd w A (v1 ++ v2)) : RdSS w A (x1 ++ x2) := by
  refine ⟨v1 ++ v2, h, by simp [h1.lv, h1.lx, h2.lv, h2.lx], fun j xs hj => ?_⟩
  by_cases hlt : j < x1.length
  · rw [List.getElem?_append_left hlt] at hj
    obtain ⟨A', c', a1, a2, a3⟩ := h1.row j xs hj
    exact ⟨A', c', by rw [List.getElem?_append_left (by have := h1.lv; have := h1.lx; omega)]; exact a1, a2, a3⟩
  · rw [List.getElem?_append_right (by omega)] at hj
    obtain ⟨A', c', a1, a2, a3⟩ := h2.row _ xs hj
    exact ⟨A', c', by rw [List.getElem?_append_right (by have := h1.lv; have := h1.lx; omega), h1.lv, ← h1.lx]; exact a1, a2, a3⟩

/-- 'append' of all elements of a slice onto a slice that the call owns. -/
theorem wpList_cat {P : Program} (w : World) {ops : Array Oper} {rest : List Oper} {o : Oper} {a : Act} {Q : Exit → Act → World → Prop} (hgd : o.guard = none) (s x : Operand) (t e : TypeId)
    (ho : o.op = .call { callee := .builtin .append, args := #[s, x], argTypes := #[t, t] }) (ht : P.underlying t = some (.slice e))
    (z : Value) (bytes : Nat) (hinfo : (P.info? e).map (fun i => (i.zero, i.size, i.bytes)) = some (some z, 1, bytes)) (hz : z.cells.size = 1)
    (base : Nat) (v : Value) (n : Nat) (vs : List Value) (hs : a.eval s = v) (hown : w.ownsRow base e 1 v n vs) (ad : Addr) (m c : Nat) (us : List Value)
    (hx : a.eval x = .slice (some ad) m c) (hl : us.length = m) (hus : ∀ j u, us[j]? = some u → w.cell? (ad.add j) = some u) (h1 : ∀ u ∈ us, u.oneCell' = true) (hn : (n + m) * bytes ≤ 140737488355328) (hm : n + m ≤ 9223372036854775807) (hb : base ≤ w.heap.size)
    (h : ∀ A' c' w', w'.ownsRow base e 1 (.slice A' (n + m) c') (n + m) (vs ++ us) → w.grownBy w' v.ownBlock → wpList P ops Q rest (a.put o.dst (.slice A' (n + m) c')) w') :
    wpList P ops Q (o :: rest) a w := by
  obtain ⟨i, hi, hzz⟩ := Option.map_eq_some_iff.1 hinfo
  simp only [Prod.mk.injEq] at hzz
  obtain ⟨e1, e2, e3⟩ := hzz
  refine wpList_append_own _ hgd s x t ho base e i z 1 bytes ht hi e1 e2 e3 hz (by decide) v n vs hs hown ad m c us hx (by omega) hus h1 (by unfold maxLen; omega) hn hb ?_
  intro v' w' hown' hg _
  have hown2 := hown'
  rcases hown'.2 with ⟨rfl, h0⟩ | ⟨g, cap, cur, rfl, rest⟩
  · have hn0 : n = 0 := by omega
    have hm0 : m = 0 := by omega
    subst hn0
    subst hm0
    exact h none 0 _ hown2 hg
  · exact h _ _ _ hown2 hg
theorem Addr.add_zero_spot (b o j : Nat) : (⟨b, o, none⟩ : Addr).add j = ⟨b, o + j, none⟩ := by simp [Addr.add]

set_option maxHeartbeats 3200000 in
theorem concat_any {g b1 o1 n1 c1 b2 o2 n2 c2 : Nat} {x1 x2 : List (List Int)} {v1 v2 : List Value} (w : World) (p1 : Part w b1 o1 n1 c1 x1 v1) (p2 : Part w b2 o2 n2 c2 x2 v2) (hn1 : n1 ≤ 1048576) (hn2 : n2 ≤ 100)
    (hc1 : w.cell? ⟨g, 0, none⟩ = some (.slice (some ⟨b1, o1, none⟩) n1 c1)) (hc2 : w.cell? ⟨g, 1, none⟩ = some (.slice (some ⟨b2, o2, none⟩) n2 c2)) (hs : n1 + n2 ≤ 100000) :
    Calls Try.prog 167 #[.slice (some ⟨g, 0, none⟩) 2 2] w fun e w' => ∃ A' c', e = .returned (.slice A' (n1 + n2) c') ∧ RdSS w' A' (x1 ++ x2) ∧ Below w.heap.size w w' := by
  have P1 := Lib.hid p1
  have P2 := Lib.hid p2
  have C1 := Lib.hid hc1
  have C2 := Lib.hid hc2
  clear p1 p2
  go_enter Try.func167, Try.ntmps167
  go_wp2
  go_loop [3, 11] (fun v i => ∃ k : Nat, k ≤ 2 ∧ i = .int .i64 k ∧ v = .int .i64 (twoTo n1 n2 k)) (fun _ i => 2 - (intOf i).toNat)
  case atStart => exact ⟨0, by omega, rfl, rfl⟩
  case round =>
    obtain ⟨k, hk, rfl, rfl⟩ := hrel
    by_cases hlt : k < 2
    · by_cases h0 : k = 0
      · subst h0
        simp only [twoTo]
        go_wp2
        go_round
        case rel => exact ⟨1, by omega, by go_num, by simp⟩
        case measure => simp [intOf]
      · obtain rfl : k = 1 := by omega
        simp only [twoTo]
        go_wp2
        go_round
        case rel => exact ⟨2, by omega, by go_num, by simp⟩
        case measure => simp [intOf]
    · obtain rfl : k = 2 := by omega
      have e2 : twoTo n1 n2 2 = n1 + n2 := rfl
      rw [e2]
      clear e2 hk hlt
      go_wp2_with fail
      refine (grow_any (n1 + n2) w (by omega)).mono ?_
      rintro e w1 ⟨A, c, rfl, own, bel⟩
      have OWN := Lib.hid own
      have BEL := Lib.hid bel
      clear own bel hc1 hc2
      go_wp2
      go_loopw [6, 27] (fun v i wr => ∃ (k : Nat) (A : Option Addr) (c : Nat), k ≤ 2 ∧ i = .int .i64 k ∧ v = .slice A (twoTo n1 n2 k) c ∧ wr.ownsRow w.heap.size 36 1 (.slice A (twoTo n1 n2 k) c) (twoTo n1 n2 k) (twoL v1 v2 k) ∧ Below w.heap.size w wr) (fun _ i _ => 2 - (intOf i).toNat)
      case atStart => exact ⟨0, A, c, by omega, rfl, rfl, OWN.out, BEL.out⟩
      case round =>
        obtain ⟨k, A2, c2', hk, rfl, rfl, own, bel⟩ := hrel
        have OW := Lib.hid own
        have BE := Lib.hid bel
        have hsz := bel.size
        have hc1 := cell_be C1.out bel
        have hc2 := cell_be C2.out bel
        clear own bel OWN BEL
        have q1 := P1.out.keep BE.out
        have q2 := P2.out.keep BE.out
        by_cases hlt : k < 2
        · by_cases h0 : k = 0
          · subst h0
            have e0 : twoTo n1 n2 0 = 0 := rfl
            have ow := OW.out
            rw [e0] at ow ⊢
            have OW0 := Lib.hid ow
            have Q := Lib.hid q1
            clear ow e0 q1 q2 OW
            go_wp2_with (at_builtin; refine wpList_cat _ rfl _ _ 22 36 rfl Try.underlying22 (.slice none 0 0) 24 Try.infoS rfl w.heap.size _ 0 [] rfl OW0.out ⟨b1, o1, none⟩ n1 c1 v1 rfl Q.out.lv ?h2 (rows_one (by rw [Q.out.lv, Q.out.lx]) Q.out.row) (by omega) (by omega) hsz ?_)
            case h2 => exact fun j u hj => by rw [Addr.add_zero_spot]; exact Q.out.cell j u hj
            intro A5 c5 w5 own5 gr5
            have B5 := Lib.hid (BE.out.grown gr5 hsz fun q hq => (OW0.out.lt q hq).1)
            have O5 := Lib.hid own5
            clear own5 gr5
            go_wp2
            go_roundw
            case rel => exact ⟨1, A5, c5, by omega, by go_num, rfl, by simpa [twoTo, twoL] using O5.out, B5.out⟩
            case measure => simp [intOf]
          · obtain rfl : k = 1 := by omega
            have e0 : twoTo n1 n2 1 = n1 := rfl
            have ow := OW.out
            rw [e0] at ow ⊢
            have OW0 := Lib.hid ow
            have Q := Lib.hid q2
            clear ow e0 q1 q2 OW
            go_wp2_with (at_builtin; refine wpList_cat _ rfl _ _ 22 36 rfl Try.underlying22 (.slice none 0 0) 24 Try.infoS rfl w.heap.size _ n1 v1 rfl OW0.out ⟨b2, o2, none⟩ n2 c2 v2 rfl Q.out.lv ?h2 (rows_one (by rw [Q.out.lv, Q.out.lx]) Q.out.row) (by omega) (by omega) hsz ?_)
            case h2 => exact fun j u hj => by rw [Addr.add_zero_spot]; exact Q.out.cell j u hj
            intro A5 c5 w5 own5 gr5
            have B5 := Lib.hid (BE.out.grown gr5 hsz fun q hq => (OW0.out.lt q hq).1)
            have O5 := Lib.hid own5
            clear own5 gr5
            go_wp2
            go_roundw
            case rel => exact ⟨2, A5, c5, by omega, by go_num, rfl, by simpa [twoTo, twoL] using O5.out, B5.out⟩
            case measure => simp [intOf]
        · obtain rfl : k = 2 := by omega
          have Q1 := Lib.hid q1
          have Q2 := Lib.hid q2
          clear q1 q2
          go_wp2
          go_ret
          exact ⟨A2, c2', rfl, two_rd Q1.out Q2.out (own_rd OW.out), BE.out⟩
end Go.Proofs.Ytmgoaabeopnopaa
namespace Go.Proofs.Ytmgoaabeopnopaa
open Go.RowKit

theorem rdSS_take {w : World} {b o i : Nat} {xss : List (List Int)} (h : RdSS w (some ⟨b, o, none⟩) xss) : RdSS w (some ⟨b, o, none⟩) (xss.take i) := by
  obtain ⟨vals, h1, h2, h3⟩ := h
  refine ⟨vals.take i, fun hl => ?_, by simp [h2], fun j xs hj => ?_⟩
  · obtain ⟨b', o', he, hc⟩ := h1 (by simp at hl; omega)
    refine ⟨b', o', he, fun k u hu => hc k u ?_⟩
    rw [List.getElem?_take] at hu
    split at hu
    · exact hu
    · simp at hu
  · rw [List.getElem?_take] at hj
    split at hj
    · rename_i hlt
      obtain ⟨A', c', a1, a2⟩ := h3 j xs hj
      exact ⟨A', c', by rw [List.getElem?_take, if_pos hlt]; exact a1, a2⟩
    · simp at hj
theorem rdSS_drop {w : World} {b o i : Nat} {xss : List (List Int)} (h : RdSS w (some ⟨b, o, none⟩) xss) : RdSS w (some ⟨b, o + i, none⟩) (xss.drop i) := by
  obtain ⟨vals, h1, h2, h3⟩ := h
  refine ⟨vals.drop i, fun hl => ?_, by simp [h2], fun j xs hj => ?_⟩
  · obtain ⟨b', o', he, hc⟩ := h1 (by simp at hl; omega)
    obtain ⟨rfl, rfl⟩ : b = b' ∧ o = o' := by simpa using he
    refine ⟨b, o + i, rfl, fun k u hu => ?_⟩
    rw [List.getElem?_drop] at hu
    rw [Nat.add_assoc]
    exact hc _ u hu
  · rw [List.getElem?_drop] at hj
    obtain ⟨A', c', a1, a2⟩ := h3 _ xs hj
    exact ⟨A', c', by rw [List.getElem?_drop]; exact a1, a2⟩
theorem part_nil {w : World} {b o c : Nat} : Part w b o 0 c [] [] := ⟨rfl, rfl, fun k u h => by simp at h, fun j xs h => by simp at h⟩
/-- The face labels of rank i. -/
def facL (xss : List (List Int)) (n i : Nat) : List Int := labL (xss.eraseIdx i) n
theorem grtL_lab {n : Nat} {yss : List (List Int)} (hsys : okSys n yss = true) (hn : 0 < n) : grtL (labL yss n) = mxL (labL yss n) + 1 := by
  have h := grt_mx (fun x hx => (labL_in hsys x hx).1) (n - 1) (by rw [labL_length]; omega)
  rwa [List.take_of_length_le (by rw [labL_length]; omega)] at h
theorem mxL_lab {n : Nat} {yss : List (List Int)} (hsys : okSys n yss = true) : 0 ≤ mxL (labL yss n) ∧ mxL (labL yss n) ≤ (n : Int) := by
  have h := mxL_bd (labL_in hsys) n
  rw [List.take_of_length_le (by rw [labL_length]; omega)] at h
  omega
theorem okSys_rows {n : Int} {yss : List (List Int)} (h : okSys n yss = true) : ∀ xs ∈ yss, (xs.length : Int) ≤ 1048576 := fun xs hx => by
  have h1 := sys_parts h
  have h2 := (h1.2.2.2 xs hx).1
  omega

set_option maxHeartbeats 1600000 in
theorem ilabels_any {b o c N n n2 c2 c0 : Nat} {A0 A2 : Option Addr} {yss : List (List Int)} (w : World) (h0 : w.cell? ⟨b, o, none⟩ = some (.slice A0 n c0)) (hpos : 0 < N) (hy : yss.length = n2) (ha : RdSS w A2 yss) (hsys : okSys n yss = true) (hn : 0 < n) :
    Calls Try.prog 147 #[.agg #[.slice (some ⟨b, o, none⟩) N c], .slice A2 n2 c2] w (RetS w (labL yss n) (grtL (labL yss n))) := by
  have HC0 := Lib.hid (cell_al h0 (.cells #[.slice (some ⟨b, o, none⟩) N c] 27))
  have HA := Lib.hid (ha.al (.cells #[.slice (some ⟨b, o, none⟩) N c] 27))
  have HY := Lib.hid hy
  have HS := Lib.hid hsys
  have HG := Lib.hid (grtL_lab hsys hn)
  have hmb := mxL_lab hsys
  have hn2 : n2 ≤ 1048576 := by have := (sys_parts hsys).2.2.1; omega
  have hn4 := (sys_parts hsys).2.1
  have H1 := Lib.hid (show labR (n : Int) yss = labL yss n by simp [labR, hsys])
  clear h0 ha hy hsys
  go_enter Try.func147, Try.ntmps147
  go_wp2_with fail
  refine (flags_bel _ hpos HC0.out).mono ?_
  rintro e w1 ⟨rfl, bel⟩
  have BEL1 := Lib.hid ((below1 w (.cells #[.slice (some ⟨b, o, none⟩) N c] 27)).trans (bel.mono (by simp)))
  have HA1 := Lib.hid (HA.out.keep bel)
  clear bel
  go_wp2_with fail
  refine (iLab_any (n : Int) _ HY.out HA1.out hn2 (okSys_rows HS.out)).mono ?_
  rintro e w2 ⟨A3, c3, rfl, own, bel⟩
  rw [H1.out] at own ⊢
  rw [labL_length] at own ⊢
  have OWN := Lib.hid own
  have BEL2 := Lib.hid (BEL1.out.trans (bel.mono BEL1.out.size))
  have BS := Lib.hid BEL1.out.size
  clear own bel
  go_wp2_with fail
  refine (max_any _ (labL_length _ _) (own_rd OWN.out) hn (by omega) (fun x hx => (labL_in HS.out x hx).1)).mono ?_
  rintro e w3 ⟨rfl, rfl⟩
  go_wp2
  go_ret2
  exact ⟨A3, c3, by rw [labL_length, HG.out]; rfl, by rw [labL_length]; exact own_base OWN.out BS.out, BEL2.out⟩

set_option maxHeartbeats 3200000 in
theorem ifaces_any {b o c N n c0 i : Nat} {A0 : Option Addr} {xss : List (List Int)} (w : World) (hx : xss.length = N) (ha : RdSS w (some ⟨b, o, none⟩) xss) (hsys : okSys n xss = true) (h0 : w.cell? ⟨b, o, none⟩ = some (.slice A0 n c0)) (hi : i < N) (hcap : N ≤ c) (hc63 : c ≤ 9223372036854775807) (hn : 0 < n) :
    Calls Try.prog 128 #[.agg #[.slice (some ⟨b, o, none⟩) N c], .int .i64 i] w (RetS w (facL xss n i) (grtL (facL xss n i))) := by
  have hN := (sys_parts hsys).2.2.1
  have hlx : (xss.eraseIdx i).length = i + (N - (i + 1)) := by rw [List.length_eraseIdx, if_pos (by omega)]; omega
  have hte : xss.take i ++ xss.drop (i + 1) = xss.eraseIdx i := by rw [List.eraseIdx_eq_take_drop_succ]
  obtain ⟨v1, p1⟩ := part_of (n := i) (c := c) (by simp; omega) (rdSS_take (i := i) ha)
  have P1 := Lib.hid p1
  have HA := Lib.hid ha
  have HX := Lib.hid hx
  have HLX := Lib.hid hlx
  have HTE := Lib.hid hte
  have HSE := Lib.hid (okSys_erase hsys i)
  have HC0 := Lib.hid h0
  have hcb := (Bx.start w (.slice (some ⟨b, o, none⟩) N c) 27).cell
  have hpos : 0 < N := by omega
  have i0 : (0 : Int) ≤ (i : Int) := by omega
  have i1 : (i : Int) ≤ (c : Int) := by omega
  have i2 : (0 : Int) ≤ (i : Int) + 1 := by omega
  have i3 : (i : Int) + 1 ≤ (N : Int) := by omega
  have k1 : i ≤ 1048576 := by omega
  have k2 : N - (i + 1) ≤ 100 := by omega
  have k3 : i + (N - (i + 1)) ≤ 100000 := by omega
  have k4 : w.heap.size < (w.alloc (.cells #[.slice (some ⟨b, o, none⟩) N c] 27)).heap.size := by simp
  have i4 : IntKind.i64.wrap ((i : Int) + 1) = (i : Int) + 1 := IntWalk.i64_in _ (by omega)
  have i5 : ((i : Int) + 1).toNat = i + 1 := by omega
  by_cases hci : c = i + 1
  · obtain rfl : N = i + 1 := by omega
    subst hci
    have hdn : xss.drop (i + 1) = [] := List.drop_of_length_le (by omega)
    rw [hdn] at hte
    have HTE := Lib.hid hte
    have hlx' : (xss.eraseIdx i).length = i := by omega
    have HLX := Lib.hid hlx'
    have k3' : i + 0 ≤ 100000 := by omega
    clear hdn hlx'
    have i6 : (i : Int) ≤ (i : Int) + 1 := Int.le_add_one (Int.le_refl _)
    have i7 : (i : Int) < (i : Int) + 1 := Int.lt_add_one_iff.2 (Int.le_refl _)
    have p2 := part_nil (w := w) (b := b) (o := o) (c := 0)
    have P2 := Lib.hid p2
    clear ha hx hsys h0 p1 p2 hlx hte
    go_enter Try.func128, Try.ntmps128
    go_wp2_with fail
    go_region_held3 (fun w' => w'.cell? ⟨w.heap.size, 0, none⟩ = some (.slice (some ⟨b, o, none⟩) (i + 1) (i + 1))) (first | (exact hcb) | (exact q) | (go_keep; done))
      (first
        | (go_at_call 167
           have hb2 : Below w.heap.size w (((w.alloc (.cells #[.slice (some ⟨b, o, none⟩) (i + 1) (i + 1)] 27)).alloc (.cells #[.slice (some ⟨b, o, none⟩) i (i + 1), .slice (some ⟨b, o, none⟩) 0 0] 22)).drew) := below_drewN (below2 w _ _) 1
           have h9 := concat_any _ (P1.out.keep hb2) (P2.out.keep hb2) k1 (Nat.zero_le _) (g := w.heap.size + 1) (by simp) (by simp) k3'
           refine h9.mono ?_
           rintro e w1 ⟨A1, c1, rfl, rd, bel⟩
           have q := cell_be (cell_ald (Bx.start w (.slice (some ⟨b, o, none⟩) (i + 1) (i + 1)) 27).cell _) bel)
        | (go_at_call 147
           have rd2 := rd
           rw [HTE.out] at rd2
           refine (ilabels_any _ (cell_be (cell_be HC0.out hb2) bel) hpos HLX.out rd2 HSE.out hn).mono ?_
           rintro e w2 ⟨A2, c2, rfl, own, bel2⟩
           have q := cell_be (cell_be (cell_ald (Bx.start w (.slice (some ⟨b, o, none⟩) (i + 1) (i + 1)) 27).cell _) bel) bel2))
    go_wp2
    go_ret2
    exact ⟨A2, c2, rfl, own_base own (Nat.le_trans hb2.size bel.size), hb2.trans ((bel.mono hb2.size).trans (bel2.mono (Nat.le_trans hb2.size bel.size)))⟩
  · have hci' : i + 1 < c := by omega
    obtain ⟨v2, p2⟩ := part_of (n := N - (i + 1)) (c := c - (i + 1)) (by simp; omega) (rdSS_drop (i := i + 1) ha)
    have P2 := Lib.hid p2
    clear ha hx hsys h0 p1 p2 hlx hte
    go_enter Try.func128, Try.ntmps128
    go_wp2_with fail
    go_region_held3 (fun w' => w'.cell? ⟨w.heap.size, 0, none⟩ = some (.slice (some ⟨b, o, none⟩) N c)) (first | (exact hcb) | (exact q) | (go_keep; done))
      (first
        | (go_at_call 167
           have hb2 : Below w.heap.size w (((w.alloc (.cells #[.slice (some ⟨b, o, none⟩) N c] 27)).alloc (.cells #[.slice (some ⟨b, o, none⟩) i c, .slice (some ⟨b, o + (i + 1), none⟩) (N - (i + 1)) (c - (i + 1))] 22)).drew) := below_drewN (below2 w _ _) 1
           have h9 := concat_any _ (P1.out.keep hb2) (P2.out.keep hb2) k1 k2 (g := w.heap.size + 1) (by simp) (by simp) k3
           refine h9.mono ?_
           rintro e w1 ⟨A1, c1, rfl, rd, bel⟩
           have q := cell_be (cell_ald (Bx.start w (.slice (some ⟨b, o, none⟩) N c) 27).cell _) bel)
        | (go_at_call 147
           have rd2 := rd
           rw [HTE.out] at rd2
           refine (ilabels_any _ (cell_be (cell_be HC0.out hb2) bel) hpos HLX.out rd2 HSE.out hn).mono ?_
           rintro e w2 ⟨A2, c2, rfl, own, bel2⟩
           have q := cell_be (cell_be (cell_ald (Bx.start w (.slice (some ⟨b, o, none⟩) N c) 27).cell _) bel) bel2))
    go_wp2
    go_ret2
    exact ⟨A2, c2, rfl, own_base own (Nat.le_trans hb2.size bel.size), hb2.trans ((bel.mono hb2.size).trans (bel2.mono (Nat.le_trans hb2.size bel.size)))⟩
end Go.Proofs.Ytmgoaabeopnopaa
namespace Go.Proofs.Ytmgoaabeopnopaa
open Go.RowKit
theorem s2_al {w W : World} {p q : Nat} {v : Value} (h : Below w.heap.size w W ∧ W.cell? ⟨p, q, none⟩ = some v) (o : Obj) : Below w.heap.size w (W.alloc o) ∧ (W.alloc o).cell? ⟨p, q, none⟩ = some v := s2_go h (below1 _ _)
theorem lit1_rd (w : World) (x : Int) {g : Nat} (hg : w.heap.size = g) : Rd (w.alloc (.cells #[.int .i64 x] 2)) (some ⟨g, 0, none⟩) (ints [x]) := fun _ => ⟨g, 0, rfl, fun k u hu => by
  subst hg
  match k, hu with
  | 0, hu => simp at hu; subst hu; simp
  | k + 1, hu => simp at hu⟩
set_option maxHeartbeats 400000 in
set_option maxRecDepth 8000 in
theorem sfaces_any {b o c N n c0 i : Nat} {A0 : Option Addr} {xss : List (List Int)} (w : World) (hx : xss.length = N) (ha : RdSS w (some ⟨b, o, none⟩) xss) (hsys : okSys n xss = true) (h0 : w.cell? ⟨b, o, none⟩ = some (.slice A0 n c0)) (hi : i < N) :
    Calls Try.prog 109 #[.agg #[.slice (some ⟨b, o, none⟩) N c], .int .i64 i] w (RetN w (facL xss n i) n) := by
  have hpos : 0 < N := by omega
  have hN := (sys_parts hsys).2.2.1
  have HA := Lib.hid ha
  have HX := Lib.hid hx
  have HS := Lib.hid (okSys_erase hsys i)
  have HC0 := Lib.hid h0
  have hcb := (Bx.start w (.slice (some ⟨b, o, none⟩) N c) 27).cell
  have HE := Lib.hid (show othTo xss [(i : Int)] N = xss.eraseIdx i from hx ▸ othTo_all (by omega))
  have hN6 : N ≤ 1048576 := by omega
  have hle : (xss.eraseIdx i).length ≤ 1048576 := by have : (xss.eraseIdx i).length ≤ xss.length := List.length_eraseIdx_le _ _; omega
  have S0 : Below w.heap.size w (w.alloc (.cells #[.slice (some ⟨b, o, none⟩) N c] 27)).drew ∧ (w.alloc (.cells #[.slice (some ⟨b, o, none⟩) N c] 27)).drew.cell? ⟨w.heap.size, 0, none⟩ = some (.slice (some ⟨b, o, none⟩) N c) := ⟨below_drewN (below1 w _) 1, hcb⟩
  have S1 : Below w.heap.size w ((w.alloc (.cells #[.slice (some ⟨b, o, none⟩) N c] 27)).alloc (.cells #[.int .i64 (i : Int)] 2)).drew ∧ ((w.alloc (.cells #[.slice (some ⟨b, o, none⟩) N c] 27)).alloc (.cells #[.int .i64 (i : Int)] 2)).drew.cell? ⟨w.heap.size, 0, none⟩ = some (.slice (some ⟨b, o, none⟩) N c) := ⟨below_drewN (below2 w _ _) 1, cell_ald hcb _⟩
  have LB := Lib.hid (show Rd ((w.alloc (.cells #[.slice (some ⟨b, o, none⟩) N c] 27)).alloc (.cells #[.int .i64 (i : Int)] 2)).drew (some ⟨w.heap.size + 1, 0, none⟩) (ints [(i : Int)]) from lit1_rd (w.alloc (.cells #[.slice (some ⟨b, o, none⟩) N c] 27)) (i : Int) (by simp))
  obtain ⟨m, hm⟩ : ∃ m, (xss.eraseIdx i).length = m := ⟨_, rfl⟩
  rw [hm] at hle
  have HM := Lib.hid hm
  clear ha hx h0 hsys hm
  go_enter Try.func109, Try.ntmps109
  go_wp2_with fail
  go_region_held3 (fun w' => Below w.heap.size w w' ∧ w'.cell? ⟨w.heap.size, 0, none⟩ = some (.slice (some ⟨b, o, none⟩) N c)) (first | (with_reducible exact q) | (with_reducible exact S0) | (with_reducible exact S1) | (with_reducible exact s2_al q _))
    (first
      | (go_at_call 87
         refine (sFlags_bel _ hpos (cell_s2 HC0.out (by assumption))).mono ?_
         rintro e w1 ⟨rfl, bel⟩
         have q := s2_go (by assumption) bel)
      | (go_at_call 153
         have hW := s2_al q (.cells #[.int .i64 (i : Int)] 2)
         have h9 := oth_any (c := c) _ HX.out (HA.out.keep hW.1) hN6 (B := [(i : Int)]) (bc := 1) rfl (lit1_rd w1 (i : Int) rfl) (by decide)
         rw [HE.out, HM.out] at h9
         (with_reducible refine h9.mono ?_)
         clear h9
         rintro e w2 ⟨A2, c2, rfl, rd, bel2⟩
         have q := s2_go hW bel2)
      | (go_at_call 153
         have hW := q
         have h9 := oth_any (c := c) _ HX.out (HA.out.keep hW.1) hN6 (B := [(i : Int)]) (bc := 1) rfl ((LB.out : Rd _ _ _).keep bel) (by decide)
         rw [HE.out, HM.out] at h9
         (with_reducible refine h9.mono ?_)
         clear h9
         rintro e w2 ⟨A2, c2, rfl, rd, bel2⟩
         have q := s2_go hW bel2)
      | (go_at_call 153
         have hW := S1
         have h9 := oth_any (c := c) _ HX.out (HA.out.keep hW.1) hN6 (B := [(i : Int)]) (bc := 1) rfl LB.out (by decide)
         rw [HE.out, HM.out] at h9
         (with_reducible refine h9.mono ?_)
         clear h9
         rintro e w2 ⟨A2, c2, rfl, rd, bel2⟩
         have q := s2_go hW bel2)
      | (go_at_call 86
         (with_reducible refine (sorbs_any _ HM.out rd hle HS.out).mono ?_)
         rintro e w3 ⟨A3, c3, rfl, own, bel3⟩
         have q3 := q
         have q := s2_go q bel3)
      | (go_at_call 86
         (with_reducible refine (sorbs_any _ HM.out (rd.keep bel) hle HS.out).mono ?_)
         rintro e w3 ⟨A3, c3, rfl, own, bel3⟩
         have q3 := q
         have q := s2_go q bel3))
  all_goals
    go_wp2
    go_ret
    exact ⟨A3, c3, rfl, own_base own q3.1.size, q.1⟩
end Go.Proofs.Ytmgoaabeopnopaa
namespace Go.Proofs.Ytmgoaabeopnopaa
open Go.RowKit

theorem ownSS_cap {w : World} {lo hi e n c : Nat} {A : Option Addr} {xss : List (List Int)} (h : OwnSS w lo hi e A n c xss) : n ≤ c ∧ c ≤ 9223372036854775807 := by
  obtain ⟨vals, h1, _⟩ := h
  rcases h1.2 with ⟨hv, h0⟩ | ⟨g, cap, cur, hv, _, _, h2, h3, _⟩
  · simp only [Value.slice.injEq] at hv
    omega
  · simp only [Value.slice.injEq] at hv
    unfold maxLen at h3
    omega
theorem facL_len (xss : List (List Int)) (n i : Nat) : (facL xss n i).length = n := labL_length _ _
theorem facL_in {xss : List (List Int)} {n i : Nat} (hsys : okSys n xss = true) : ∀ x ∈ facL xss n i, 0 ≤ x ∧ x < (n : Int) := labL_in (okSys_erase hsys i)
theorem grt_fac {xss : List (List Int)} {n i : Nat} (hsys : okSys n xss = true) : 0 ≤ grtL (facL xss n i) ∧ grtL (facL xss n i) ≤ (n : Int) := by
  have h := grtL_bd (facL_in (i := i) hsys) n
  rwa [List.take_of_length_le (by rw [facL_len]; omega)] at h
/-- The numbers of faces of the ranks below k. -/
def cntTo (xss : List (List Int)) (n k : Nat) : List Int := (List.range k).map fun i => grtL (facL xss n i)
theorem cntTo_len (xss : List (List Int)) (n k : Nat) : (cntTo xss n k).length = k := by simp [cntTo]
theorem cntTo_succ (xss : List (List Int)) (n k : Nat) : cntTo xss n (k + 1) = cntTo xss n k ++ [grtL (facL xss n k)] := by simp [cntTo, List.range_succ]
theorem cntTo_at {xss : List (List Int)} {n N k : Nat} (h : k < N) : (cntTo xss n N)[k]? = some (grtL (facL xss n k)) := by simp [cntTo, h]
theorem retN_1 {w w' : World} {L : List Int} {n : Nat} {e : Ending} (hl : L.length = n) (h : RetN w L n e w') : Ret1 w L e w' := by
  obtain ⟨A, c, h1, h2, h3⟩ := h
  subst hl
  exact ⟨A, c, h1, h2, h3⟩

set_option maxHeartbeats 800000 in
theorem grt_any {A : Option Addr} {c n : Nat} {l : List Int} (w : World) (hx : l.length = n) (ha : Rd w A (ints l)) (hn : n ≤ 1048576) (hb : ∀ x ∈ l, 0 ≤ x ∧ x < (n : Int)) :
    Calls Try.prog 110 #[.slice A n c] w fun e w' => e = .returned (.int .i64 (grtL l)) ∧ w = w' := by
  have HX := Lib.hid hx
  have HA := Lib.hid ha
  have HB := Lib.hid hb
  have HG := Lib.hid (grtL_bd hb)
  clear hx ha hb
  go_enter Try.func110, Try.ntmps110
  go_wp2
  go_loop [3, 4] (fun v i => ∃ (k : Nat) (M : Int), k ≤ n ∧ i = .int .i64 k ∧ v = .int .i64 M ∧ M = grtL (l.take k)) (fun _ i => n - (intOf i).toNat)
  case atStart => exact ⟨0, 0, Nat.zero_le _, rfl, rfl, by simp [grtL]⟩
  case round =>
    obtain ⟨k, M, hk, rfl, rfl, hM⟩ := hrel
    have HM := Lib.hid hM
    clear hM
    by_cases hlt : k < n
    · obtain ⟨b, o, x, rfl, hgx, hcx⟩ := HA.out.int (k := k) (by rw [HX.out]; exact hlt)
      have hxb := HB.out x (List.mem_of_getElem? hgx)
      have HS := Lib.hid (grtL_succ hgx)
      clear hgx
      by_cases hge : M ≤ x
      · go_wp2
        go_round
        case rel => exact ⟨k + 1, x + 1, by omega, by go_num, rfl, by rw [HS.out, ← HM.out, if_pos hge]⟩
        case measure => simp [intOf]; omega
      · go_wp2
        go_round
        case rel => exact ⟨k + 1, M, by omega, by go_num, rfl, by rw [HS.out, ← HM.out, if_neg hge]⟩
        case measure => simp [intOf]; omega
    · have HE := Lib.hid (show M = grtL l by rw [HM.out, List.take_of_length_le (by rw [HX.out]; omega)])
      go_wp2
      go_ret
      exact ⟨ret_i64 HE.out, rfl⟩

set_option maxHeartbeats 1600000 in
theorem icnt_any {b o c N n c0 : Nat} {A0 : Option Addr} {xss : List (List Int)} (w : World) (hx : xss.length = N) (ha : RdSS w (some ⟨b, o, none⟩) xss) (hsys : okSys n xss = true) (h0 : w.cell? ⟨b, o, none⟩ = some (.slice A0 n c0)) (hcap : N ≤ c) (hc63 : c ≤ 9223372036854775807) (hn : 0 < n) :
    Calls Try.prog 118 #[.agg #[.slice (some ⟨b, o, none⟩) N c]] w (RetN w (cntTo xss n N) N) := by
  have hN := (sys_parts hsys).2.2.1
  rw [hx] at hN
  have HX := Lib.hid hx
  have HA := Lib.hid ha
  have HS := Lib.hid hsys
  have HC0 := Lib.hid h0
  have BX0 := Lib.hid ((Bx.start w (.slice (some ⟨b, o, none⟩) N c) 27).al (.cells #[.slice (some ⟨b, o, none⟩) N c] 27))
  have hmk := run_make_row' (P := Try.prog) 36 2 (.int .i64 0) 8 Try.underlying36 Try.info2 rfl .i64 .i64 N (by omega) (by omega)
  clear hx ha hsys h0
  go_enter Try.func118, Try.ntmps118
  go_wp2_with fail
  refine (rank_any _).mono ?_
  rintro e w' ⟨rfl, rfl⟩
  go_wp2_with fail
  refine (rank_any _).mono ?_
  rintro e w' ⟨rfl, rfl⟩
  obtain ⟨w1, hw1⟩ : ∃ w1 : World, w1 = ((w.alloc (.cells #[.slice (some ⟨b, o, none⟩) N c] 27)).alloc (.cells #[.slice (some ⟨b, o, none⟩) N c] 27)) := ⟨_, rfl⟩
  rw [← hw1] at BX0 ⊢
  have hg := BX0.out.size
  have OW0 := Lib.hid ((own_base (make_own w1 (.int .i64 0) N 2 (by unfold maxLen; omega)) (show w.heap.size + 1 ≤ w1.heap.size by omega)).alloc (.cells #[.slice (some ⟨b, o, none⟩) N c] 27))
  have BX1 := Lib.hid ((BX0.out.al (.cells (madeCells #[.int .i64 0] N) 2)).al (.cells #[.slice (some ⟨b, o, none⟩) N c] 27))
  have hgg : w1.heap.size = w.heap.size + 1 + 1 := by rw [hw1]; simp
  rw [hgg] at OW0
  clear hw1 hmk hgg hg
  go_wp2
  obtain ⟨g, hgg⟩ : ∃ g : Nat, w.heap.size + 1 + 1 = g := ⟨_, rfl⟩
  rw [hgg] at OW0 ⊢
  clear hgg
  go_loopw [10] (fun i wr => ∃ k : Nat, k ≤ N ∧ i = .int .i64 k ∧ wr.ownsRow (w.heap.size + 1) 2 1 (.slice (some ⟨g, 0, none⟩) N N) N (ints (cntTo xss n k ++ List.replicate (N - k) 0)) ∧ Bx w wr (.slice (some ⟨b, o, none⟩) N c) 27) (fun i _ => N - (intOf i).toNat)
  case atStart => exact ⟨0, Nat.zero_le _, rfl, by simpa [cntTo] using OW0.out, BX1.out⟩
  case round =>
    obtain ⟨k, hk, rfl, own, bx⟩ := hrel
    have OWN := Lib.hid own
    have BX := Lib.hid bx
    have HCR := Lib.hid (cell_be HC0.out bx.below)
    have HAR := Lib.hid (HA.out.keep bx.below)
    have hbc := bx.cell
    clear own bx
    by_cases hlt : k < N
    · go_wp2_with fail
      refine (ifaces_any wr HX.out HAR.out HS.out HCR.out hlt hcap hc63 hn).mono ?_
      rintro e w2 ⟨A2, c2, rfl, own2, bel2⟩
      have OWN2 := Lib.hid (own_below OWN.out bel2 (Nat.le_refl _))
      have BX2 := Lib.hid (BX.out.go bel2)
      have hcell := own_cell OWN2.out (show (ints (cntTo xss n k ++ List.replicate (N - k) 0))[k]? = some (.int .i64 0) by
        rw [ints, List.map_append, List.getElem?_append_right (by simp [cntTo_len])]
        simp [cntTo_len, List.getElem?_replicate]
        omega)
      have hfr := OWN2.out.frozenAt k
      have hst := OWN2.out.stored k (.int .i64 (grtL (facL xss n k)))
      have O3 := Lib.hid hst.1
      have B3 := Lib.hid (show Bx w (w2.setCell ⟨g, k, none⟩ (.int .i64 (grtL (facL xss n k)))) (.slice (some ⟨b, o, none⟩) N c) 27 from ⟨BX2.out.bel.setCell (p := ⟨g, k, none⟩) (OWN2.out.lt g rfl).1 _⟩)
      have HE := Lib.hid (show (cntTo xss n k ++ List.replicate (N - k) 0).set k (grtL (facL xss n k)) = cntTo xss n (k + 1) ++ List.replicate (N - (k + 1)) 0 by
        rw [List.set_append_right _ _ (by rw [cntTo_len]; exact Nat.le_refl _), cntTo_len, Nat.sub_self, show N - k = (N - (k + 1)) + 1 by omega, List.replicate_succ, List.set_cons_zero, cntTo_succ]
        simp)
      clear own2 bel2 hst hbc
      go_wp2
      go_roundw
      case rel => exact ⟨k + 1, by omega, by go_num, by have h := O3.out; rwa [ints_set, HE.out] at h, B3.out⟩
      case measure => simp [intOf]; omega
    · obtain rfl : k = N := by omega
      have h := OWN.out
      rw [Nat.sub_self, List.replicate_zero, List.append_nil] at h
      have OE := Lib.hid h
      clear h
      go_wp2
      go_ret
      exact ⟨_, _, rfl, own_base OE.out (by omega), BX.out.below⟩
end Go.Proofs.Ytmgoaabeopnopaa
namespace Go.Proofs.Ytmgoaabeopnopaa
open Go.RowKit

theorem iRank_bel {A : Option Addr} {c N : Nat} {r : Bool} (f : Int) (w : World) (hr : flagB N f = r) :
    Calls Try.prog 111 #[.agg #[.slice A N c], .int .i64 f] w fun e w' => e = .returned (.bool r) ∧ Below w.heap.size w w' := by
  by_cases hf0 : 0 ≤ f
  · have HR := Lib.hid (show decide (f < (N : Int)) = r from by rw [← hr]; unfold flagB; congr 1; simp only [eq_iff_iff]; omega)
    clear hr
    go_enter Try.func111, Try.ntmps111
    go_wp2_with fail
    refine (rank_any _).mono ?_
    rintro e w1 ⟨rfl, rfl⟩
    go_wp2
    go_ret
    exact ⟨ret_bool HR.out, below2 w _ _⟩
  · have HR := Lib.hid (show false = r from by rw [← hr]; unfold flagB; rw [decide_eq_false (by omega)])
    clear hr
    go_enter Try.func111, Try.ntmps111
    go_wp2
    go_ret
    exact ⟨ret_bool HR.out, below1 w _⟩
theorem sRank_val {N : Nat} {f : Int} {r : Bool} (w : World) (hr : flagB N f = r) :
    Calls Try.prog 108 #[.int .i64 f, .int .i64 0, .int .i64 ((N : Int) - 1)] w fun e w' => e = .returned (.bool r) ∧ Below w.heap.size w w' :=
  in_val w (by rw [← hr]; unfold flagB; congr 1; simp only [eq_iff_iff]; omega)
noncomputable def flR (xss : List (List Int)) (f : Int) : List Int := if okMan xss then (if flagB xss.length f then facL xss (flN xss) f.toNat else []) else []
noncomputable def flC (xss : List (List Int)) (f : Int) : Int := if okMan xss then (if flagB xss.length f then 0 else 2) else 1
theorem flR_le (xss : List (List Int)) (f : Int) : (flR xss f).length ≤ 1048576 := by
  unfold flR
  split
  · rename_i h
    have := (okMan_iff.1 h).f4
    split
    · rw [facL_len]; omega
    · simp
  · simp
noncomputable def fcR (xss : List (List Int)) : List Int := if okMan xss then cntTo xss (flN xss) xss.length else []
theorem fcR_le (xss : List (List Int)) : (fcR xss).length ≤ 1048576 := by
  unfold fcR
  split
  · rename_i h
    have := (okMan_iff.1 h).r5
    rw [cntTo_len]; omega
  · simp
def eulTo (l : List Int) : Nat → Int
  | 0 => 0
  | k + 1 => if k % 2 = 0 then eulTo l k + l.getD k 0 else eulTo l k - l.getD k 0
theorem eulTo_bd {l : List Int} (h : ∀ x ∈ l, 0 ≤ x ∧ x ≤ 400) : ∀ k : Nat, -(400 * (k : Int)) ≤ eulTo l k ∧ eulTo l k ≤ 400 * (k : Int)
  | 0 => by simp [eulTo]
  | k + 1 => by
    have ih := eulTo_bd h k
    have hx : 0 ≤ l.getD k 0 ∧ l.getD k 0 ≤ 400 := by
      by_cases hk : k < l.length
      · have := h l[k] (List.getElem_mem hk)
        simpa [List.getD, hk] using this
      · simp [List.getD, List.getElem?_eq_none (by omega : l.length ≤ k)]
    unfold eulTo
    split <;> (push_cast; omega)
noncomputable def euR (xss : List (List Int)) : Int := if okMan xss then eulTo (cntTo xss (flN xss) xss.length) xss.length else 0
theorem cnt_in {xss : List (List Int)} {n N : Nat} (hsys : okSys n xss = true) : ∀ x ∈ cntTo xss n N, 0 ≤ x ∧ x ≤ 400 := by
  intro x hx
  obtain ⟨i, _, rfl⟩ := List.mem_map.1 hx
  have h1 := grt_fac (i := i) hsys
  have h2 := (sys_parts hsys).2.1
  omega

theorem retN1c {w : World} {f : FuncId} {args : Array Value} {L : List Int} {n : Nat} (h : Calls Try.prog f args w (RetN w L n)) (hl : L.length = n) : Calls Try.prog f args w (Ret1 w L) := h.mono fun _ _ h => retN_1 hl h
set_option maxHeartbeats 1600000 in
theorem iFaceLabels_any {A : Option Addr} {c N : Nat} {xss : List (List Int)} (k1 : Int) (w : World) (hx : xss.length = N) (ha : RdSS w A xss) (hN : N ≤ 1048576) (hr : ∀ xs ∈ xss, (xs.length : Int) ≤ 1048576) (hcap : N ≤ c) (hc63 : c ≤ 9223372036854775807) :
    Calls Try.prog 165 #[.agg #[.slice A N c], .int .i64 k1] w (RetS w (flR xss k1) (flC xss k1)) := by
  have HX := Lib.hid hx
  have HA := Lib.hid ha
  have HR := Lib.hid hr
  cases ho : okMan xss
  · have h1 : flR xss k1 = [] := by simp [flR, ho]
    have h2 : flC xss k1 = 1 := by simp [flC, ho]
    rw [h1, h2]
    have HO := Lib.hid ho
    clear hx ha hr ho h1 h2
    go_enter Try.func165, Try.ntmps165
    go_wp2_with fail
    refine (iMan_any _ HX.out (HA.out.al _) hN HR.out).mono ?_
    rintro e w1 ⟨rfl, bel⟩
    rw [HO.out]
    have BEL := Lib.hid bel
    clear bel
    go_wp2
    go_ret2
    exact ⟨none, 0, rfl, World.ownsRow_nil _ _ _ _, (below1 w _).trans (BEL.out.mono (by simp))⟩
  · have hman := okMan_iff.1 ho
    have hsys := hman.sys
    have hn4 := hman.f4
    have hn2 := hman.f2
    have hpos := hman.pos hx
    have hallq : ∀ q : Nat, q < flN xss → (orbL xss (flN xss) q).length = flN xss := fun q hq => hman.all hq
    obtain ⟨b, o, A0, c0, rfl, hc0⟩ := man_row0 hman ha
    obtain ⟨n, hn⟩ : ∃ n, flN xss = n := ⟨_, rfl⟩
    rw [hn] at hc0 hsys hn4 hn2 hallq
    have HC0 := Lib.hid hc0
    have HO := Lib.hid ho
    have HSY := Lib.hid hsys
    have HALLQ := Lib.hid hallq
    have HMAN := Lib.hid hman
    have HFL := Lib.hid hn
    have BX0 := Lib.hid (Bx.start w (.slice (some ⟨b, o, none⟩) N c) 27)
    have hn6 : n ≤ 1048576 := by omega
    cases hf0 : flagB N k1
    · have h1 : flR xss k1 = [] := by simp [flR, ho, hx, hf0]
      have h2 : flC xss k1 = 2 := by simp [flC, ho, hx, hf0]
      rw [h1, h2]
      have HF0 := Lib.hid hf0
      clear hx ha hr ho hman hn hc0 hsys hallq h1 h2 hf0
      go_enter Try.func165, Try.ntmps165
      go_wp2_with fail
      refine (iMan_any _ HX.out (HA.out.al _) hN HR.out).mono ?_
      rintro e w1 ⟨rfl, bel⟩
      rw [HO.out]
      have BX1 := Lib.hid (BX0.out.go bel)
      have HC1 := Lib.hid (cell_be (cell_al HC0.out _) bel)
      have hbc1 := BX1.out.cell
      clear bel BX0
      go_wp2_with fail
      refine (iRank_bel _ _ HF0.out).mono ?_
      rintro e w2 ⟨rfl, bel⟩
      have BX2 := Lib.hid (BX1.out.go bel)
      have HC2 := Lib.hid (cell_be HC1.out bel)
      have hbc2 := BX2.out.cell
      clear bel hbc1
      go_wp2
      go_ret2
      exact ⟨none, 0, rfl, World.ownsRow_nil _ _ _ _, BX2.out.below⟩
    · skip
      obtain ⟨p0, rfl, hp0⟩ := flagB_true hf0
      have h1 : flR xss (p0 : Int) = facL xss n p0 := by simp [flR, ho, hn, hx, hf0]
      have h2 : flC xss (p0 : Int) = 0 := by simp [flC, ho, hx, hf0]
      rw [h1, h2]
      have HF0 := Lib.hid hf0
      clear hx ha hr ho hman hn hc0 hsys hallq h1 h2 hf0
      go_enter Try.func165, Try.ntmps165
      go_wp2_with fail
      refine (iMan_any _ HX.out (HA.out.al _) hN HR.out).mono ?_
      rintro e w1 ⟨rfl, bel⟩
      rw [HO.out]
      have BX1 := Lib.hid (BX0.out.go bel)
      have HC1 := Lib.hid (cell_be (cell_al HC0.out _) bel)
      have hbc1 := BX1.out.cell
      clear bel BX0
      go_wp2_with fail
      refine (iRank_bel _ _ HF0.out).mono ?_
      rintro e w2 ⟨rfl, bel⟩
      have BX2 := Lib.hid (BX1.out.go bel)
      have HC2 := Lib.hid (cell_be HC1.out bel)
      have hbc2 := BX2.out.cell
      clear bel hbc1
      have HAB := Lib.hid (HA.out.keep BX2.out.below)
      go_wp2_with fail
      refine (ifaces_any _ HX.out HAB.out HSY.out HC2.out hp0 hcap hc63 (by omega)).mono ?_
      rintro e w3 ⟨A9, c9, rfl, own, bel⟩
      have OWN := Lib.hid own
      have BX3 := Lib.hid (BX2.out.go bel)
      have HS := Lib.hid BX2.out.below.size
      clear bel hbc2 own
      go_wp2
      go_ret2
      exact ⟨A9, c9, rfl, own_base OWN.out HS.out, BX3.out.below⟩
set_option maxHeartbeats 1600000 in
theorem iFaceCounts_any {A : Option Addr} {c N : Nat} {xss : List (List Int)} (w : World) (hx : xss.length = N) (ha : RdSS w A xss) (hN : N ≤ 1048576) (hr : ∀ xs ∈ xss, (xs.length : Int) ≤ 1048576) (hcap : N ≤ c) (hc63 : c ≤ 9223372036854775807) :
    Calls Try.prog 53 #[.agg #[.slice A N c]] w (RetS w (fcR xss) (manC xss)) := by
  have HX := Lib.hid hx
  have HA := Lib.hid ha
  have HR := Lib.hid hr
  cases ho : okMan xss
  · have h1 : fcR xss = [] := by simp [fcR, ho]
    have h2 : manC xss = 1 := by simp [manC, ho]
    rw [h1, h2]
    have HO := Lib.hid ho
    clear hx ha hr ho h1 h2
    go_enter Try.func53, Try.ntmps53
    go_wp2_with fail
    refine (iMan_any _ HX.out (HA.out.al _) hN HR.out).mono ?_
    rintro e w1 ⟨rfl, bel⟩
    rw [HO.out]
    have BEL := Lib.hid bel
    clear bel
    go_wp2
    go_ret2
    exact ⟨none, 0, rfl, World.ownsRow_nil _ _ _ _, (below1 w _).trans (BEL.out.mono (by simp))⟩
  · have hman := okMan_iff.1 ho
    have hsys := hman.sys
    have hn4 := hman.f4
    have hn2 := hman.f2
    have hpos := hman.pos hx
    have hallq : ∀ q : Nat, q < flN xss → (orbL xss (flN xss) q).length = flN xss := fun q hq => hman.all hq
    obtain ⟨b, o, A0, c0, rfl, hc0⟩ := man_row0 hman ha
    obtain ⟨n, hn⟩ : ∃ n, flN xss = n := ⟨_, rfl⟩
    rw [hn] at hc0 hsys hn4 hn2 hallq
    have HC0 := Lib.hid hc0
    have HO := Lib.hid ho
    have HSY := Lib.hid hsys
    have HALLQ := Lib.hid hallq
    have HMAN := Lib.hid hman
    have HFL := Lib.hid hn
    have BX0 := Lib.hid (Bx.start w (.slice (some ⟨b, o, none⟩) N c) 27)
    have hn6 : n ≤ 1048576 := by omega
    have h1 : fcR xss = cntTo xss n N := by simp [fcR, ho, hn, hx]
    have h2 : manC xss = 0 := by simp [manC, ho]
    rw [h1, h2]
    clear hx ha hr ho hman hn hc0 hsys hallq h1 h2
    go_enter Try.func53, Try.ntmps53
    go_wp2_with fail
    refine (iMan_any _ HX.out (HA.out.al _) hN HR.out).mono ?_
    rintro e w1 ⟨rfl, bel⟩
    rw [HO.out]
    have BX1 := Lib.hid (BX0.out.go bel)
    have HC1 := Lib.hid (cell_be (cell_al HC0.out _) bel)
    have hbc1 := BX1.out.cell
    clear bel BX0
    have HAB := Lib.hid (HA.out.keep BX1.out.below)
    go_wp2_with fail
    refine (retN1c (icnt_any _ HX.out HAB.out HSY.out HC1.out hcap hc63 (by omega)) (cntTo_len _ _ _)).mono ?_
    rintro e w2 ⟨A9, c9, rfl, own, bel⟩
    have OWN := Lib.hid own
    have BX2 := Lib.hid (BX1.out.go bel)
    have HS := Lib.hid BX1.out.below.size
    clear bel hbc1 own
    go_wp2
    go_ret2
    exact ⟨A9, c9, rfl, own_base OWN.out HS.out, BX2.out.below⟩
end Go.Proofs.Ytmgoaabeopnopaa
namespace Go.Proofs.Ytmgoaabeopnopaa
open Go.RowKit

end Go.Proofs.Ytmgoaabeopnopaa
