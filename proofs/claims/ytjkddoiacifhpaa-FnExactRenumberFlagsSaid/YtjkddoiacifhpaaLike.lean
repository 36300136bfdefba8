import Derived.Test.YtjkddoiacifhpaaL1
namespace Go.Proofs.Ytjkddoiacifhpaa
open Go.RowKit
set_option maxHeartbeats 400000 in
theorem like_any {A B : Option Addr} {c d : Nat} {xs ys : List Int} {n m : Nat} (w : World) (hx : xs.length = n) (hy : ys.length = m) (ha : Rd w A (ints xs)) (hb : Rd w B (ints ys)) (hn : n ≤ 9223372036854775807) :
    Calls Try.prog 29 #[.slice A n c, .slice B m d] w fun e w' => e = .returned (.bool (decide (xs = ys))) ∧ ∃ j, w' = w.drewN j := by
  by_cases hl : n = m
  · subst hl
    have HX := Lib.hid hx
    have HY := Lib.hid hy
    clear hx hy
    go_enter Try.func29, Try.ntmps29
    go_wp2
    go_loopw [5] (fun i wr => ∃ k : Nat, k ≤ n ∧ i = .int .i64 k ∧ xs.take k = ys.take k ∧ ∃ j, wr = w.drewN j) (fun i _ => n - (intOf i).toNat)
    case atStart => exact ⟨0, Nat.zero_le _, rfl, rfl, 0, rfl⟩
    case round =>
      obtain ⟨k, hk, rfl, heq, j, rfl⟩ := hrel
      have HE := Lib.hid heq
      clear heq
      by_cases hlt : k < n
      · obtain ⟨b, o, x, rfl, hgx, hcx⟩ := ha.int (k := k) (by rw [HX.out]; exact hlt)
        obtain ⟨b', o', y, rfl, hgy, hcy⟩ := hb.int (k := k) (by rw [HY.out]; exact hlt)
        have HGX := Lib.hid hgx
        have HGY := Lib.hid hgy
        clear hgx hgy ha hb
        go_wp2
        go_quiet (fail)
        go_wp2
        · have hne : (x != y) = true := by assumption
          go_ret
          refine ⟨ret_bool ?_, j + nq, World.drewN_drewN _ _ _⟩
          have hxy : x ≠ y := by simpa using hne
          refine (decide_eq_false ?_).symm
          intro h
          have h1 := HGX.out
          rw [h, HGY.out] at h1
          exact hxy (by simpa using h1.symm)
        · have heq : x = y := by simpa using (by assumption : (x != y) = false)
          go_roundw
          case rel => exact ⟨k + 1, by omega, by go_num, by rw [take_succ_of HGX.out, take_succ_of HGY.out, HE.out, heq], j + nq, by simp⟩
          case measure => simp [intOf]; omega
      · go_wp2
        go_ret
        exact ⟨ret_bool (decide_eq_true (decide_eq_take HX.out HY.out (by omega) HE.out)).symm, _, rfl⟩
  · have hne : ((n : Int) != (m : Int)) = true := by rw [bne_iff_ne]; omega
    have hd : decide (xs = ys) = false := decide_eq_false (fun h => hl (by rw [← hx, ← hy, h]))
    go_enter Try.func29, Try.ntmps29
    go_wp2
    go_ret
    exact ⟨ret_bool hd.symm, 0, rfl⟩
end Go.Proofs.Ytjkddoiacifhpaa
