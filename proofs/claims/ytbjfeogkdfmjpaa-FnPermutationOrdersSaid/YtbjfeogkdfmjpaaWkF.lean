import Derived.Test.YtbjfeogkdfmjpaaWkE
namespace Go.Proofs.Ytbjfeogkdfmjpaa
open Go.RowKit

/-- A permutation that leads no point to itself, and that done twice is the identity. -/
noncomputable def freeP (xs : List Int) : Bool := @decide (∀ k : Nat, k < xs.length → xs[k]? ≠ some (k : Int) ∧ ∀ m : Nat, xs[k]? = some (m : Int) → xs[m]? = some (k : Int)) (Classical.propDecidable _)
noncomputable def okFree (xs : List Int) : Bool := okP xs && freeP xs
def freeTo (xs : List Int) (k : Nat) : Prop := ∀ j : Nat, j < k → xs[j]? ≠ some (j : Int) ∧ ∀ m : Nat, xs[j]? = some (m : Int) → xs[m]? = some (j : Int)
theorem freeTo_zero (xs : List Int) : freeTo xs 0 := fun j h => absurd h (by omega)
theorem freeTo_succ {xs : List Int} {k m : Nat} (h : freeTo xs k) (h1 : xs[k]? = some (m : Int)) (h2 : m ≠ k) (h3 : xs[m]? = some (k : Int)) : freeTo xs (k + 1) := by
  intro j hj
  rcases Nat.lt_succ_iff_lt_or_eq.1 hj with hlt | rfl
  · exact h j hlt
  · refine ⟨fun e => ?_, fun m' e => ?_⟩
    · rw [h1] at e
      injection e with e
      omega
    · rw [h1] at e
      injection e with e
      have : m' = m := by omega
      rw [this]; exact h3
theorem freeTo_all {xs : List Int} {n k : Nat} (hn : xs.length = n) (hk : n ≤ k) (h : freeTo xs k) : freeP xs = true := @decide_eq_true _ (Classical.propDecidable _) fun j hj => h j (by omega)
theorem free_not_self {xs : List Int} {k : Nat} (h : xs[k]? = some (k : Int)) : freeP xs = false :=
  @decide_eq_false _ (Classical.propDecidable _) fun hall => (hall k (List.getElem?_eq_some_iff.1 h).1).1 h
theorem free_not_back {xs : List Int} {k m : Nat} {y : Int} (h : xs[k]? = some (m : Int)) (hy : xs[m]? = some y) (hne : y ≠ (k : Int)) : freeP xs = false :=
  @decide_eq_false _ (Classical.propDecidable _) fun hall => by
    have h1 := (hall k (List.getElem?_eq_some_iff.1 h).1).2 m h
    rw [hy] at h1
    injection h1 with h1
    exact hne h1
theorem okP_at {xs : List Int} {n k : Nat} {x : Int} (hp : okP xs = true) (hn : xs.length = n) (hx : xs[k]? = some x) : ∃ m : Nat, x = (m : Int) ∧ m < n := by
  have h := (of_decide_eq_true hp).2.1 x (mem_of_get hx)
  exact ⟨x.toNat, by omega, by omega⟩

set_option maxHeartbeats 800000 in
theorem sfree_loop {A : Option Addr} {c : Nat} {xs : List Int} {n : Nat} (w : World) (hx : xs.length = n) (ha : Rd w A (ints xs)) (hn : n ≤ 1048576) (hp : okP xs = true) :
    Calls Try.prog 98 #[.slice A n c] w fun e w' => e = .returned (.bool (freeP xs)) ∧ w = w' := by
  have HX := Lib.hid hx
  have HA := Lib.hid ha
  have HP := Lib.hid hp
  clear hx ha hp
  go_enter Try.func98, Try.ntmps98
  go_wp2
  go_loop [3] (fun i => ∃ k : Nat, k ≤ n ∧ i = .int .i64 k ∧ freeTo xs k) (fun i => n - (intOf i).toNat)
  case atStart => exact ⟨0, Nat.zero_le _, rfl, freeTo_zero _⟩
  case round =>
    obtain ⟨k, hk, rfl, fr⟩ := hrel
    have FR := Lib.hid fr
    clear fr
    by_cases hlt : k < n
    · obtain ⟨b, o, x, rfl, hgx, hcx⟩ := HA.out.int (k := k) (by rw [HX.out]; exact hlt)
      obtain ⟨m, rfl, hm⟩ := okP_at HP.out HX.out hgx
      have HG := Lib.hid hgx
      clear hgx
      by_cases h1 : m = k
      · subst h1
        have h0 := Lib.hid (free_not_self HG.out)
        have hd : ((m : Int) == (m : Int)) = true := by simp
        go_wp2
        go_ret
        exact ⟨ret_bool h0.out.symm, rfl⟩
      · obtain ⟨b', o', y, he, hgy, hcy⟩ := HA.out.int (k := m) (by rw [HX.out]; exact hm)
        simp only [Option.some.injEq, Addr.mk.injEq, and_true] at he
        obtain ⟨rfl, rfl⟩ := he
        have HY := Lib.hid hgy
        clear hgy
        have hd : ((m : Int) == (k : Int)) = false := by rw [beq_eq_false_iff_ne]; omega
        by_cases h2 : y = (k : Int)
        · have h3 := Lib.hid (freeTo_succ FR.out HG.out h1 (h2 ▸ HY.out))
          subst h2
          have hd2 : ((k : Int) != (k : Int)) = false := by simp
          go_wp2
          go_round
          case rel => exact ⟨k + 1, by omega, by go_num, h3.out⟩
          case measure => simp [intOf]; omega
        · have h3 := Lib.hid (free_not_back HG.out HY.out h2)
          have hd2 : (y != (k : Int)) = true := by rw [bne_iff_ne]; exact h2
          clear h2
          go_wp2
          go_ret
          exact ⟨ret_bool h3.out.symm, rfl⟩
    · go_wp2
      go_ret
      exact ⟨ret_bool (freeTo_all HX.out (by omega) FR.out).symm, rfl⟩
set_option maxHeartbeats 800000 in
theorem ifree_loop {A : Option Addr} {c : Nat} {xs : List Int} {n : Nat} (w : World) (hx : xs.length = n) (ha : Rd w A (ints xs)) (hn : n ≤ 1048576) (hp : okP xs = true) :
    Calls Try.prog 99 #[.slice A n c] w fun e w' => e = .returned (.bool (freeP xs)) ∧ w = w' := by
  have HX := Lib.hid hx
  have HA := Lib.hid ha
  have HP := Lib.hid hp
  clear hx ha hp
  go_enter Try.func99, Try.ntmps99
  go_wp2
  go_loop [7] (fun i => ∃ k : Nat, k ≤ n ∧ i = .int .i64 k ∧ freeTo xs k) (fun i => n - (intOf i).toNat)
  case atStart => exact ⟨0, Nat.zero_le _, rfl, freeTo_zero _⟩
  case round =>
    obtain ⟨k, hk, rfl, fr⟩ := hrel
    have FR := Lib.hid fr
    clear fr
    by_cases hlt : k < n
    · obtain ⟨b, o, x, rfl, hgx, hcx⟩ := HA.out.int (k := k) (by rw [HX.out]; exact hlt)
      obtain ⟨m, rfl, hm⟩ := okP_at HP.out HX.out hgx
      have HG := Lib.hid hgx
      clear hgx
      by_cases h1 : m = k
      · subst h1
        have h0 := Lib.hid (free_not_self HG.out)
        have hd : ((m : Int) == (m : Int)) = true := by simp
        go_wp2
        go_ret
        exact ⟨ret_bool h0.out.symm, rfl⟩
      · obtain ⟨b', o', y, he, hgy, hcy⟩ := HA.out.int (k := m) (by rw [HX.out]; exact hm)
        simp only [Option.some.injEq, Addr.mk.injEq, and_true] at he
        obtain ⟨rfl, rfl⟩ := he
        have HY := Lib.hid hgy
        clear hgy
        have hd : ((m : Int) == (k : Int)) = false := by rw [beq_eq_false_iff_ne]; omega
        by_cases h2 : y = (k : Int)
        · have h3 := Lib.hid (freeTo_succ FR.out HG.out h1 (h2 ▸ HY.out))
          subst h2
          have hd2 : ((k : Int) != (k : Int)) = false := by simp
          go_wp2
          go_round
          case rel => exact ⟨k + 1, by omega, by go_num, h3.out⟩
          case measure => simp [intOf]; omega
        · have h3 := Lib.hid (free_not_back HG.out HY.out h2)
          have hd2 : (y != (k : Int)) = true := by rw [bne_iff_ne]; exact h2
          clear h2
          go_wp2
          go_ret
          exact ⟨ret_bool h3.out.symm, rfl⟩
    · go_wp2
      go_ret
      exact ⟨ret_bool (freeTo_all HX.out (by omega) FR.out).symm, rfl⟩

theorem sfree_any {A : Option Addr} {c : Nat} {xs : List Int} {n : Nat} (w : World) (hx : xs.length = n) (ha : Rd w A (ints xs)) (hn : n ≤ 1048576) :
    Calls Try.prog 57 #[.slice A n c] w fun e w' => e = .returned (.bool (okFree xs)) ∧ Below w.heap.size w w' := by
  have HX := Lib.hid hx
  have HA := Lib.hid ha
  clear hx ha
  cases hp : okP xs
  · have hf : okFree xs = false := by simp [okFree, hp]
    have HF := Lib.hid hf
    have HP := Lib.hid hp
    clear hf hp
    go_enter Try.func57, Try.ntmps57
    go_wp2_with fail
    refine (perm_any w HX.out HA.out hn).mono ?_
    rintro e w' ⟨rfl, bel⟩
    rw [HP.out]
    go_wp2
    go_ret
    exact ⟨ret_bool HF.out.symm, bel⟩
  · have hf : okFree xs = freeP xs := by simp [okFree, hp]
    have HF := Lib.hid hf
    have HP := Lib.hid hp
    clear hf hp
    go_enter Try.func57, Try.ntmps57
    go_wp2_with fail
    refine (perm_any w HX.out HA.out hn).mono ?_
    rintro e w' ⟨rfl, bel⟩
    rw [HP.out]
    have BEL := Lib.hid bel
    clear bel
    go_wp2_with fail
    refine (sfree_loop w' HX.out (HA.out.keep BEL.out) hn HP.out).mono ?_
    rintro e w2 ⟨rfl, rfl⟩
    go_wp2
    go_ret
    exact ⟨ret_bool HF.out.symm, BEL.out⟩
theorem ifree_any {A : Option Addr} {c : Nat} {xs : List Int} {n : Nat} (w : World) (hx : xs.length = n) (ha : Rd w A (ints xs)) (hn : n ≤ 1048576) :
    Calls Try.prog 58 #[.slice A n c] w fun e w' => e = .returned (.bool (okFree xs)) ∧ Below w.heap.size w w' := by
  have HX := Lib.hid hx
  have HA := Lib.hid ha
  clear hx ha
  cases hp : okP xs
  · have hf : okFree xs = false := by simp [okFree, hp]
    have HF := Lib.hid hf
    have HP := Lib.hid hp
    clear hf hp
    go_enter Try.func58, Try.ntmps58
    go_wp2_with fail
    refine (iperm_any w HX.out HA.out hn).mono ?_
    rintro e w' ⟨rfl, bel⟩
    rw [HP.out]
    go_wp2
    go_ret
    exact ⟨ret_bool HF.out.symm, bel⟩
  · have hf : okFree xs = freeP xs := by simp [okFree, hp]
    have HF := Lib.hid hf
    have HP := Lib.hid hp
    clear hf hp
    go_enter Try.func58, Try.ntmps58
    go_wp2_with fail
    refine (iperm_any w HX.out HA.out hn).mono ?_
    rintro e w' ⟨rfl, bel⟩
    rw [HP.out]
    have BEL := Lib.hid bel
    clear bel
    go_wp2_with fail
    refine (ifree_loop w' HX.out (HA.out.keep BEL.out) hn HP.out).mono ?_
    rintro e w2 ⟨rfl, rfl⟩
    go_wp2
    go_ret
    exact ⟨ret_bool HF.out.symm, BEL.out⟩
end Go.Proofs.Ytbjfeogkdfmjpaa
