import Derived.Test.YtbjfeogkdfmjpaaWkF
namespace Go.Proofs.Ytbjfeogkdfmjpaa
open Go.RowKit

/-- The list in which, for each of the first k points, the image of the point has the point. -/
def backTo (xs : List Int) (n : Nat) : Nat → List Int
  | 0 => List.replicate n 0
  | k + 1 => match xs[k]? with
    | some x => (backTo xs n k).set x.toNat (k : Int)
    | none => backTo xs n k
theorem backTo_length (xs : List Int) (n : Nat) : ∀ k, (backTo xs n k).length = n
  | 0 => by simp [backTo]
  | k + 1 => by
    unfold backTo
    split
    · simp [backTo_length xs n k]
    · exact backTo_length xs n k
theorem backTo_succ {xs : List Int} {n k m : Nat} (h : xs[k]? = some (m : Int)) : (backTo xs n k).set m (k : Int) = backTo xs n (k + 1) := by
  rw [backTo, h]
  simp
def invL (xs : List Int) : List Int := backTo xs xs.length xs.length
def permC (xs : List Int) : Int := if okP xs then 0 else 1
def invR (xs : List Int) : List Int := if okP xs then invL xs else []
theorem invL_len (xs : List Int) : (invL xs).length = xs.length := backTo_length _ _ _
theorem invR_len (xs : List Int) : (invR xs).length ≤ xs.length := by
  unfold invR
  split
  · rw [invL_len]; exact Nat.le_refl _
  · simp
theorem ints_at {xs : List Int} {n k : Nat} (hn : xs.length = n) (hk : k < n) : ∃ u, (ints xs)[k]? = some (.int .i64 u) := ⟨xs[k], by simp [show k < xs.length by omega]⟩

set_option maxHeartbeats 800000 in
theorem back_any {A : Option Addr} {c : Nat} {xs : List Int} {n : Nat} (w : World) (hx : xs.length = n) (ha : Rd w A (ints xs)) (hn : n ≤ 1048576) (hp : okP xs = true) :
    Calls Try.prog 82 #[.slice A n c] w (Ret1 w (invL xs)) := by
  have HX := Lib.hid hx
  have HA := Lib.hid ha
  have HP := Lib.hid hp
  clear hx ha hp
  have hmk := run_make_row' (P := Try.prog) 24 2 (.int .i64 0) 8 Try.underlying24 Try.info2 rfl .i64 .i64 n (by omega) (by omega)
  go_enter Try.func82, Try.ntmps82
  go_wp2
  clear hmk
  go_loopw [4] (fun i wr => ∃ k : Nat, k ≤ n ∧ i = .int .i64 k ∧ wr.ownsRow w.heap.size 2 1 (.slice (some ⟨w.heap.size, 0, none⟩) n n) n (ints (backTo xs n k)) ∧ Below w.heap.size w wr) (fun i _ => n - (intOf i).toNat)
  case atStart => exact ⟨0, Nat.zero_le _, rfl, by simpa [backTo] using make_own w (.int .i64 0) n 2 (by unfold maxLen; omega), (Below.refl _ _).alloc (Nat.le_refl _) _⟩
  case round =>
    obtain ⟨k, hk, rfl, own, bel⟩ := hrel
    have OWN := Lib.hid own
    have BEL := Lib.hid bel
    clear own bel
    by_cases hlt : k < n
    · obtain ⟨b, o, x, rfl, hgx, hcx⟩ := (HA.out.keep BEL.out).int (k := k) (by rw [HX.out]; exact hlt)
      obtain ⟨m, rfl, hm⟩ := okP_at HP.out HX.out hgx
      obtain ⟨u, hu⟩ := ints_at (backTo_length xs n k) hm
      have hcell := own_cell OWN.out hu
      have hfrz := OWN.out.frozenAt m
      have HG := Lib.hid hgx
      clear hgx hu
      go_wp2
      go_roundw
      case rel => exact ⟨k + 1, by omega, by go_num, by have h := (OWN.out.stored m (.int .i64 k)).1; rwa [ints_set, backTo_succ HG.out] at h, BEL.out.setCell (by simp) _⟩
      case measure => simp [intOf]; omega
    · go_wp2
      go_ret
      obtain rfl : k = n := by omega
      have hl : (invL xs).length = k := by rw [invL_len, HX.out]
      have he : backTo xs k k = invL xs := by unfold invL; rw [HX.out]
      have h := OWN.out
      rw [he] at h
      exact ⟨_, _, by rw [hl]; rfl, by rw [hl]; exact h, BEL.out⟩
set_option maxHeartbeats 800000 in
theorem inverse_any {A : Option Addr} {c : Nat} {xs : List Int} {n : Nat} (w : World) (hx : xs.length = n) (ha : Rd w A (ints xs)) (hn : n ≤ 1048576) (hp : okP xs = true) :
    Calls Try.prog 77 #[.slice A n c] w (Ret1 w (invL xs)) := by
  have HX := Lib.hid hx
  have HA := Lib.hid ha
  have HP := Lib.hid hp
  clear hx ha hp
  have hmk := run_make_row' (P := Try.prog) 68 2 (.int .i64 0) 8 Try.underlying68 Try.info2 rfl .i64 .i64 n (by omega) (by omega)
  go_enter Try.func77, Try.ntmps77
  go_wp2
  clear hmk
  go_loopw [11] (fun i wr => ∃ k : Nat, k ≤ n ∧ i = .int .i64 k ∧ wr.ownsRow w.heap.size 2 1 (.slice (some ⟨w.heap.size, 0, none⟩) n n) n (ints (backTo xs n k)) ∧ Below w.heap.size w wr) (fun i _ => n - (intOf i).toNat)
  case atStart => exact ⟨0, Nat.zero_le _, rfl, by simpa [backTo] using make_own w (.int .i64 0) n 2 (by unfold maxLen; omega), (Below.refl _ _).alloc (Nat.le_refl _) _⟩
  case round =>
    obtain ⟨k, hk, rfl, own, bel⟩ := hrel
    have OWN := Lib.hid own
    have BEL := Lib.hid bel
    clear own bel
    by_cases hlt : k < n
    · obtain ⟨b, o, x, rfl, hgx, hcx⟩ := (HA.out.keep BEL.out).int (k := k) (by rw [HX.out]; exact hlt)
      obtain ⟨m, rfl, hm⟩ := okP_at HP.out HX.out hgx
      obtain ⟨u, hu⟩ := ints_at (backTo_length xs n k) hm
      have hcell := own_cell OWN.out hu
      have hfrz := OWN.out.frozenAt m
      have HG := Lib.hid hgx
      clear hgx hu
      go_wp2
      go_roundw
      case rel => exact ⟨k + 1, by omega, by go_num, by have h := (OWN.out.stored m (.int .i64 k)).1; rwa [ints_set, backTo_succ HG.out] at h, BEL.out.setCell (by simp) _⟩
      case measure => simp [intOf]; omega
    · go_wp2
      go_ret
      obtain rfl : k = n := by omega
      have hl : (invL xs).length = k := by rw [invL_len, HX.out]
      have he : backTo xs k k = invL xs := by unfold invL; rw [HX.out]
      have h := OWN.out
      rw [he] at h
      exact ⟨_, _, by rw [hl]; rfl, by rw [hl]; exact h, BEL.out⟩

theorem sinv_any {A : Option Addr} {c : Nat} {xs : List Int} {n : Nat} (w : World) (hx : xs.length = n) (ha : Rd w A (ints xs)) (hn : n ≤ 1048576) :
    Calls Try.prog 54 #[.slice A n c] w (RetS w (invR xs) (permC xs)) := by
  have HX := Lib.hid hx
  have HA := Lib.hid ha
  clear hx ha
  cases hp : okP xs
  · have hr : invR xs = [] := by simp [invR, hp]
    have hc : permC xs = 1 := by simp [permC, hp]
    rw [hr, hc]
    have HP := Lib.hid hp
    clear hp hr hc
    go_enter Try.func54, Try.ntmps54
    go_wp2_with fail
    refine (perm_any w HX.out HA.out hn).mono ?_
    rintro e w' ⟨rfl, bel⟩
    rw [HP.out]
    have BEL := Lib.hid bel
    clear bel
    go_wp2
    go_ret2
    exact ⟨none, 0, rfl, World.ownsRow_nil _ _ _ _, BEL.out⟩
  · have hr : invR xs = invL xs := by simp [invR, hp]
    have hc : permC xs = 0 := by simp [permC, hp]
    rw [hr, hc]
    have HP := Lib.hid hp
    clear hp hr hc
    go_enter Try.func54, Try.ntmps54
    go_wp2_with fail
    refine (perm_any w HX.out HA.out hn).mono ?_
    rintro e w' ⟨rfl, bel⟩
    rw [HP.out]
    have BEL := Lib.hid bel
    clear bel
    go_wp2_with fail
    refine (back_any w' HX.out (HA.out.keep BEL.out) hn HP.out).mono ?_
    rintro e w2 ⟨A2, c2, rfl, own, bel⟩
    have OWN := Lib.hid own
    have BEL2 := Lib.hid bel
    clear own bel
    go_wp2
    go_ret2
    exact ⟨_, _, rfl, own_base OWN.out BEL.out.size, BEL.out.trans (BEL2.out.mono BEL.out.size)⟩
theorem iinv_any {A : Option Addr} {c : Nat} {xs : List Int} {n : Nat} (w : World) (hx : xs.length = n) (ha : Rd w A (ints xs)) (hn : n ≤ 1048576) :
    Calls Try.prog 29 #[.slice A n c] w (RetS w (invR xs) (permC xs)) := by
  have HX := Lib.hid hx
  have HA := Lib.hid ha
  clear hx ha
  cases hp : okP xs
  · have hr : invR xs = [] := by simp [invR, hp]
    have hc : permC xs = 1 := by simp [permC, hp]
    rw [hr, hc]
    have HP := Lib.hid hp
    clear hp hr hc
    go_enter Try.func29, Try.ntmps29
    go_wp2_with fail
    refine (iperm_any w HX.out HA.out hn).mono ?_
    rintro e w' ⟨rfl, bel⟩
    rw [HP.out]
    have BEL := Lib.hid bel
    clear bel
    go_wp2
    go_ret2
    exact ⟨none, 0, rfl, World.ownsRow_nil _ _ _ _, BEL.out⟩
  · have hr : invR xs = invL xs := by simp [invR, hp]
    have hc : permC xs = 0 := by simp [permC, hp]
    rw [hr, hc]
    have HP := Lib.hid hp
    clear hp hr hc
    go_enter Try.func29, Try.ntmps29
    go_wp2_with fail
    refine (iperm_any w HX.out HA.out hn).mono ?_
    rintro e w' ⟨rfl, bel⟩
    rw [HP.out]
    have BEL := Lib.hid bel
    clear bel
    go_wp2_with fail
    refine (inverse_any w' HX.out (HA.out.keep BEL.out) hn HP.out).mono ?_
    rintro e w2 ⟨A2, c2, rfl, own, bel⟩
    have OWN := Lib.hid own
    have BEL2 := Lib.hid bel
    clear own bel
    go_wp2
    go_ret2
    exact ⟨_, _, rfl, own_base OWN.out BEL.out.size, BEL.out.trans (BEL2.out.mono BEL.out.size)⟩
end Go.Proofs.Ytbjfeogkdfmjpaa
