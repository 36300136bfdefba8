import Derived.Test.YtbjfeogkdfmjpaaWkO
namespace Go.Proofs.Ytbjfeogkdfmjpaa
open Go.RowKit

theorem gcd_step (x y : Nat) : Nat.gcd y (x % y) = Nat.gcd x y := by rw [Nat.gcd_comm y (x % y), ← Nat.gcd_rec, Nat.gcd_comm]
set_option maxHeartbeats 800000 in
theorem sgcd_any (a b : Nat) (w : World) (ha : a ≤ 1000000000000000000) (hb : b ≤ 1000000000000000000) :
    Calls Try.prog 105 #[.int .i64 a, .int .i64 b] w fun e w' => e = .returned (.int .i64 (Nat.gcd a b)) ∧ w' = w := by
  go_enter Try.func105, Try.ntmps105
  go_wp2
  go_loop [0, 1] (fun p q => ∃ x y : Nat, p = .int .i64 x ∧ q = .int .i64 y ∧ Nat.gcd x y = Nat.gcd a b ∧ x ≤ 1000000000000000000 ∧ y ≤ 1000000000000000000) (fun _ q => (intOf q).toNat)
  case atStart => exact ⟨a, b, rfl, rfl, rfl, ha, hb⟩
  case round =>
    obtain ⟨x, y, rfl, rfl, hg, hx, hy⟩ := hrel
    have HG := Lib.hid hg
    clear hg
    by_cases h0 : y = 0
    · subst h0
      go_wp2
      go_ret
      have h := HG.out
      rw [Nat.gcd_zero_right] at h
      exact ⟨ret_i64 (by rw [h]), rfl⟩
    · have h1 : 0 < y := by omega
      have hlt : x % y < y := Nat.mod_lt _ h1
      have HL := Lib.hid hlt
      have H0 := Lib.hid h0
      clear hlt h0
      go_wp2
      go_round
      case rel => exact ⟨y, x % y, rfl, by simp, by rw [← HG.out, gcd_step], hy, by have := HL.out; omega⟩
      case measure => have := HL.out; simp [intOf]; omega
set_option maxHeartbeats 800000 in
theorem igcd_any (a b : Nat) (w : World) (ha : a ≤ 1000000000000000000) (hb : b ≤ 1000000000000000000) :
    Calls Try.prog 104 #[.int .i64 a, .int .i64 b] w fun e w' => e = .returned (.int .i64 (Nat.gcd a b)) ∧ ∃ j, w' = w.drewN j := by
  go_enter Try.func104, Try.ntmps104
  go_wp2
  go_loopw [0, 1] (fun p q wr => ∃ x y : Nat, p = .int .i64 x ∧ q = .int .i64 y ∧ Nat.gcd x y = Nat.gcd a b ∧ x ≤ 1000000000000000000 ∧ y ≤ 1000000000000000000 ∧ ∃ j, wr = w.drewN j) (fun _ q _ => (intOf q).toNat)
  case atStart => exact ⟨a, b, rfl, rfl, rfl, ha, hb, 0, rfl⟩
  case round =>
    obtain ⟨x, y, rfl, rfl, hg, hx, hy, j, rfl⟩ := hrel
    have HG := Lib.hid hg
    clear hg
    by_cases h0 : y = 0
    · subst h0
      go_wp2
      go_ret
      have h := HG.out
      rw [Nat.gcd_zero_right] at h
      exact ⟨ret_i64 (by rw [h]), j, rfl⟩
    · have h1 : 0 < y := by omega
      have hne : ((y : Int) != 0) = true := by rw [bne_iff_ne]; omega
      have hz : ((y : Int) == 0) = false := by rw [beq_eq_false_iff_ne]; omega
      have hlt : x % y < y := Nat.mod_lt _ h1
      have HL := Lib.hid hlt
      have H0 := Lib.hid h0
      clear hlt h0
      go_wp2
      go_quiet (fail)
      go_wp2
      go_roundw
      case rel => exact ⟨y, x % y, rfl, by simp, by rw [← HG.out, gcd_step], hy, by have := HL.out; omega, j + nq, by simp⟩
      case measure => have := HL.out; simp [intOf]; omega
end Go.Proofs.Ytbjfeogkdfmjpaa
