import Derived.Test.YtjkddoiacifhpaaWd3
namespace Go.Proofs.Ytjkddoiacifhpaa
open Go.RowKit

section
variable {xss : List (List Int)} {n p : Nat}
theorem dok_distL (hsys : okSys n xss = true) (hp : p < n) (hall : (orbL xss n p).length = n) : DOk xss n p (distL xss n p) := by
  obtain ⟨j, _, ho⟩ := oinv_orb hsys hp
  have hex : ∀ y : Nat, ∃ d : Nat, y < n → IsD xss p y d := fun y => by
    by_cases hy : y < n
    · obtain ⟨d, hd⟩ := ho.ex y (mem_all hall (orb_passed hsys hp) hy)
      exact ⟨d, fun _ => hd⟩
    · exact ⟨0, fun h => absurd h hy⟩
  have hD : DOk xss n p ((List.range n).map fun y => ((Classical.choose (hex y) : Nat) : Int)) :=
    ⟨by simp, fun y hy => ⟨Classical.choose (hex y), by simp [hy], Classical.choose_spec (hex y) hy⟩⟩
  rw [← distL_eq hD]
  exact hD
theorem distL_len (hsys : okSys n xss = true) (hp : p < n) (hall : (orbL xss n p).length = n) : (distL xss n p).length = n := (dok_distL hsys hp hall).1
theorem distL_at (hsys : okSys n xss = true) (hp : p < n) (hall : (orbL xss n p).length = n) {y : Nat} (hy : y < n) : ∃ d : Nat, (distL xss n p)[y]? = some (d : Int) ∧ d < n := by
  obtain ⟨d, h1, h2⟩ := (dok_distL hsys hp hall).2 y hy
  obtain ⟨j, _, ho⟩ := oinv_orb hsys hp
  obtain ⟨a, ha, hay⟩ := List.mem_iff_getElem.1 (mem_all hall (orb_passed hsys hp) hy)
  have := ho.idx a y d (by rw [List.getElem?_eq_getElem ha, hay]) h2
  exact ⟨d, h1, by omega⟩
theorem distL_in (hsys : okSys n xss = true) (hp : p < n) (hall : (orbL xss n p).length = n) : ∀ x ∈ distL xss n p, 0 ≤ x ∧ x < (n : Int) := by
  intro x hx
  obtain ⟨y, hy, rfl⟩ := List.mem_iff_getElem.1 hx
  obtain ⟨d, h1, h2⟩ := distL_at hsys hp hall (y := y) (by rw [distL_len hsys hp hall] at hy; exact hy)
  rw [List.getElem?_eq_getElem hy] at h1
  injection h1 with h1
  omega
end

set_option maxHeartbeats 800000 in
theorem max_any {A : Option Addr} {c n : Nat} {l : List Int} (w : World) (hx : l.length = n) (ha : Rd w A (ints l)) (hn0 : 0 < n) (hn : n ≤ 1048576) (hb : ∀ x ∈ l, 0 ≤ x) :
    Calls Try.prog 138 #[.slice A n c] w fun e w' => e = .returned (.int .i64 (mxL l)) ∧ w = w' := by
  have HX := Lib.hid hx
  have HA := Lib.hid ha
  obtain ⟨b, o, x0, rfl, hg0, hc0⟩ := ha.int (k := 0) (by omega)
  rw [Nat.add_zero] at hc0
  have H1 := Lib.hid (mxL_one hg0 (hb x0 (List.mem_of_getElem? hg0)))
  clear hx ha hg0 hb
  go_enter Try.func138, Try.ntmps138
  go_wp2
  go_loop [3, 4] (fun v i => ∃ k : Nat, 1 ≤ k ∧ k ≤ n ∧ i = .int .i64 k ∧ v = .int .i64 (mxL (l.take k))) (fun _ i => n - (intOf i).toNat)
  case atStart => exact ⟨1, by omega, by omega, rfl, by rw [H1.out]⟩
  case round =>
    obtain ⟨k, h1k, hk, rfl, rfl⟩ := hrel
    by_cases hlt : k < n
    · obtain ⟨b', o', x, he, hgx, hcx⟩ := HA.out.int (k := k) (by rw [HX.out]; exact hlt)
      obtain ⟨rfl, rfl⟩ : b = b' ∧ o = o' := by simpa using he
      have HS := Lib.hid (mxL_succ hgx)
      clear he hgx
      go_wp2
      go_round
      case rel => exact ⟨k + 1, by omega, by omega, by go_num, by rw [HS.out]⟩
      case measure => simp [intOf]; omega
    · have HS := Lib.hid (show l.take k = l from List.take_of_length_le (by rw [HX.out]; omega))
      go_wp2
      go_ret
      exact ⟨ret_i64 (by rw [HS.out]), rfl⟩
end Go.Proofs.Ytjkddoiacifhpaa
