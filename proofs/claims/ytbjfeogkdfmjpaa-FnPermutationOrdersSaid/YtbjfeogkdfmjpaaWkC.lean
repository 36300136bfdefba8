import Derived.Test.YtbjfeogkdfmjpaaWkB
namespace Go.Proofs.Ytbjfeogkdfmjpaa
open Go.RowKit

set_option maxHeartbeats 400000 in
theorem mark_any {A : Option Addr} {c : Nat} {xs : List Int} {n base : Nat} (k0 : Int) (w : World) (hown : w.ownsRow base 2 1 (.slice A n c) n (ints xs)) (hn : n ≤ 1048576) (h0 : 0 ≤ k0) (h1 : k0 ≤ 1000000000000000000) :
    Calls Try.prog 52 #[.slice A n c, .int .i64 k0] w fun e w' => e = .returned (.int .i64 (k0 + n)) ∧ w'.ownsRow base 2 1 (.slice A n c) n (ints (marks k0 n)) ∧ w.grownBy w' (Value.slice A n c).ownBlock := by
  have hx : xs.length = n := by simpa using hown.1
  have HX := Lib.hid hx
  have HO := Lib.hid hown
  clear hx hown
  go_enter Try.func52, Try.ntmps52
  go_wp2
  go_loopw [1, 5] (fun q i wr => ∃ k : Nat, k ≤ n ∧ i = .int .i64 k ∧ q = .int .i64 (k0 + k) ∧ wr.ownsRow base 2 1 (.slice A n c) n (ints (marks k0 k ++ xs.drop k)) ∧ w.grownBy wr (Value.slice A n c).ownBlock) (fun _ i _ => n - (intOf i).toNat)
  case atStart => exact ⟨0, Nat.zero_le _, rfl, by simp, by simpa [marks] using HO.out, World.grownBy.refl _ _⟩
  case round =>
    obtain ⟨k, hk, rfl, rfl, own, gr⟩ := hrel
    have OWN := Lib.hid own
    have GR := Lib.hid gr
    clear own gr
    by_cases hlt : k < n
    · obtain ⟨g, rfl⟩ := own_shape OWN.out (by omega)
      obtain ⟨u, hu⟩ := mark_cell (k := k0) HX.out hlt
      have hcell := own_cell OWN.out hu
      have hfrz := OWN.out.frozenAt k
      clear hu
      go_wp2
      go_roundw
      case rel =>
        have h := OWN.out.stored k (.int .i64 (k0 + k))
        refine ⟨k + 1, by omega, by go_num, by go_num, by have h1 := h.1; rwa [ints_set, mark_step HX.out hlt] at h1, ?_⟩
        exact ⟨h.2.os.trans GR.out.os, h.2.tape.trans GR.out.tape, h.2.output.trans GR.out.output, Nat.le_trans GR.out.size h.2.size, fun j hj hne => (h.2.block j (Nat.lt_of_lt_of_le hj GR.out.size) hne).trans (GR.out.block j hj hne)⟩
      case measure => simp [intOf]; omega
    · go_wp2
      go_ret
      obtain rfl : k = n := by omega
      refine ⟨rfl, ?_, GR.out⟩
      have h := OWN.out
      rwa [List.drop_of_length_le (by rw [HX.out]; exact Nat.le_refl _), List.append_nil] at h

set_option maxHeartbeats 400000 in
theorem held_any {A : Option Addr} {c : Nat} {n : Nat} (k0 : Int) (w : World) (ha : Rd w A (ints (marks k0 n))) (hn : n ≤ 1048576) (h0 : 0 ≤ k0) (h1 : k0 ≤ 1000000000000000000) :
    Calls Try.prog 53 #[.slice A n c, .int .i64 k0] w fun e w' => e = .returned (.int .i64 (k0 + n)) ∧ w = w' := by
  have HA := Lib.hid ha
  clear ha
  go_enter Try.func53, Try.ntmps53
  go_wp2
  go_loop [1, 5] (fun q i => ∃ k : Nat, k ≤ n ∧ i = .int .i64 k ∧ q = .int .i64 (k0 + k)) (fun _ i => n - (intOf i).toNat)
  case atStart => exact ⟨0, Nat.zero_le _, rfl, by simp⟩
  case round =>
    obtain ⟨k, hk, rfl, rfl⟩ := hrel
    by_cases hlt : k < n
    · obtain ⟨b, o, x, rfl, hgx, hcx⟩ := HA.out.int (k := k) (by rw [marks_length]; exact hlt)
      have hxe : x = k0 + k := by rw [marks_at hlt] at hgx; simpa using hgx.symm
      subst hxe
      clear hgx
      go_wp2
      go_round
      case rel => exact ⟨k + 1, by omega, by go_num, by go_num⟩
      case measure => simp [intOf]; omega
    · go_wp2
      go_ret
      obtain rfl : k = n := by omega
      exact ⟨rfl, rfl⟩
end Go.Proofs.Ytbjfeogkdfmjpaa
