/- spec.l01Index, l01Has, l03Is, IsPoset. -/
import Derived.Test.YtmgoaabeopnopaaPb2
namespace Go.Proofs.Ytmgoaabeopnopaa
open Go.RowKit

set_option maxHeartbeats 800000 in
theorem sidx_any {A : Option Addr} {n c : Nat} {xs : List Int} (x : Int) (w : World) (hx : xs.length = n) (ha : Rd w A (ints xs)) (hn : n ≤ 1048576) :
    Calls Try.prog 137 #[.slice A n c, .int .i64 x] w fun e w' => ∃ r : Int, e = .returned (.int .i64 r) ∧ ((x ∈ xs ∧ 0 ≤ r ∧ r ≤ 1048576 ∧ xs[r.toNat]? = some x) ∨ (¬ x ∈ xs ∧ r = -1)) ∧ w = w' := by
  have HX := Lib.hid hx
  have HA := Lib.hid ha
  clear hx ha
  go_enter Try.func137, Try.ntmps137
  go_wp2
  go_loop [5] (fun v => ∃ k : Nat, k ≤ n ∧ v = .int .i64 k ∧ ¬ x ∈ xs.take k) (fun v => n - (intOf v).toNat)
  case atStart => exact ⟨0, Nat.zero_le _, rfl, by simp⟩
  case round =>
    obtain ⟨k, hk, rfl, hno⟩ := hrel
    have HNO := Lib.hid hno
    clear hno
    by_cases hlt : k < n
    · obtain ⟨b, o, y, rfl, hg, hc⟩ := HA.out.int (k := k) (by rw [HX.out]; exact hlt)
      have HG := Lib.hid hg
      clear hg
      by_cases he : y = x
      · subst he
        have hd : (y == y) = true := by simp
        go_wp2
        go_ret
        exact ⟨k, rfl, .inl ⟨List.mem_of_getElem? HG.out, by omega, by omega, by simpa using HG.out⟩, rfl⟩
      · have hd : (y == x) = false := by rw [beq_eq_false_iff_ne]; exact he
        have HN2 := Lib.hid (show ¬ x ∈ xs.take (k + 1) from fun h => by
          rw [take_succ_of HG.out] at h
          rcases List.mem_append.1 h with h | h
          · exact HNO.out h
          · simp at h; exact he h.symm)
        clear he
        go_wp2
        go_round
        case rel => exact ⟨k + 1, by omega, by go_num, HN2.out⟩
        case measure => simp [intOf]; omega
    · have HN2 := Lib.hid (show ¬ x ∈ xs from fun h => HNO.out (by rw [List.take_of_length_le (by rw [HX.out]; omega)]; exact h))
      go_wp2
      go_ret
      exact ⟨-1, rfl, .inr ⟨HN2.out, rfl⟩, rfl⟩

theorem shas_yes {A : Option Addr} {n c : Nat} {xs : List Int} {x : Int} (w : World) (hx : xs.length = n) (ha : Rd w A (ints xs)) (hn : n ≤ 1048576) (h : x ∈ xs) :
    Calls Try.prog 130 #[.slice A n c, .int .i64 x] w fun e w' => e = .returned (.bool true) ∧ w = w' := by
  have HX := Lib.hid hx
  have HA := Lib.hid ha
  have H := Lib.hid h
  clear hx ha h
  go_enter Try.func130, Try.ntmps130
  go_wp2_with fail
  refine (sidx_any x _ HX.out HA.out hn).mono ?_
  rintro e w1 ⟨r, rfl, hr, rfl⟩
  have h0 : 0 ≤ r := by rcases hr with ⟨_, h, _⟩ | ⟨h, _⟩; exact h; exact absurd H.out h
  clear hr
  go_wp2
  go_ret
  exact ⟨rfl, rfl⟩
theorem shas_no {A : Option Addr} {n c : Nat} {xs : List Int} {x : Int} (w : World) (hx : xs.length = n) (ha : Rd w A (ints xs)) (hn : n ≤ 1048576) (h : ¬ x ∈ xs) :
    Calls Try.prog 130 #[.slice A n c, .int .i64 x] w fun e w' => e = .returned (.bool false) ∧ w = w' := by
  have HX := Lib.hid hx
  have HA := Lib.hid ha
  have H := Lib.hid h
  clear hx ha h
  go_enter Try.func130, Try.ntmps130
  go_wp2_with fail
  refine (sidx_any x _ HX.out HA.out hn).mono ?_
  rintro e w1 ⟨r, rfl, hr, rfl⟩
  have h0 : r < 0 := by rcases hr with ⟨h, _⟩ | ⟨_, h⟩; exact absurd h H.out; omega
  clear hr
  go_wp2
  go_ret
  exact ⟨ret_bool (decide_eq_false (by omega)), rfl⟩
theorem shas_any {A : Option Addr} {n c : Nat} {xs : List Int} {x : Int} (w : World) (hx : xs.length = n) (ha : Rd w A (ints xs)) (hn : n ≤ 1048576) :
    Calls Try.prog 130 #[.slice A n c, .int .i64 x] w fun e w' => e = .returned (.bool (decide (x ∈ xs))) ∧ w = w' := by
  by_cases h : x ∈ xs
  · rw [decide_eq_true h]; exact shas_yes w hx ha hn h
  · rw [decide_eq_false h]; exact shas_no w hx ha hn h
theorem shas_bel {A : Option Addr} {n c : Nat} {xs : List Int} {x : Int} {r : Bool} (w : World) (hx : xs.length = n) (ha : Rd w A (ints xs)) (hn : n ≤ 1048576) (h : decide (x ∈ xs) = r) :
    Calls Try.prog 130 #[.slice A n c, .int .i64 x] w fun e w' => e = .returned (.bool r) ∧ Below w.heap.size w w' :=
  (shas_any w hx ha hn).mono fun _ _ ⟨he, hb⟩ => ⟨by rw [he, h], hb ▸ Below.refl _ _⟩
theorem in_yes_bel (x a b : Int) (w : World) (h1 : a ≤ x) (h2 : x ≤ b) : Calls Try.prog 108 #[.int .i64 x, .int .i64 a, .int .i64 b] w fun e w' => e = .returned (.bool true) ∧ Below w.heap.size w w' :=
  (in_yes x a b w h1 h2).mono fun _ _ ⟨he, hb⟩ => ⟨he, hb ▸ Below.refl _ _⟩
theorem in_no_bel (x a b : Int) (w : World) (h : x < a ∨ b < x) : Calls Try.prog 108 #[.int .i64 x, .int .i64 a, .int .i64 b] w fun e w' => e = .returned (.bool false) ∧ Below w.heap.size w w' :=
  (in_no x a b w h).mono fun _ _ ⟨he, hb⟩ => ⟨he, hb ▸ Below.refl _ _⟩

/-- The elements before e are in order. -/
structure PosTo (R : Int) (xs : List Int) (bss : List (List Int)) (e : Nat) (l : Int) : Prop where
  rk : RkTo R xs e l
  row : ∀ (i : Nat) (b : List Int), i < e → bss[i]? = some b → RowOk xs i b
  tr : ∀ (i : Nat) (b : List Int), i < e → bss[i]? = some b → ∀ d ∈ b, TrEl bss b d

end Go.Proofs.Ytmgoaabeopnopaa
