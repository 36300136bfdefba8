import Derived.Test.YtbjfeogkdfmjpaaWkC
import Derived.Test.YtbjfeogkdfmjpaaPerm
namespace Go.Proofs.Ytbjfeogkdfmjpaa
open Go.RowKit

theorem in_yes (x a b : Int) (w : World) (h1 : a ≤ x) (h2 : x ≤ b) : Calls Try.prog 95 #[.int .i64 x, .int .i64 a, .int .i64 b] w fun e w' => e = .returned (.bool true) ∧ w = w' := by
  go_enter Try.func95, Try.ntmps95
  go_wp2
  go_ret
  exact ⟨rfl, rfl⟩
theorem in_no (x a b : Int) (w : World) (h : x < a ∨ b < x) : Calls Try.prog 95 #[.int .i64 x, .int .i64 a, .int .i64 b] w fun e w' => e = .returned (.bool false) ∧ w = w' := by
  by_cases h1 : x < a
  · clear h
    go_enter Try.func95, Try.ntmps95
    go_wp2
    go_ret
    exact ⟨rfl, rfl⟩
  · have h2 : b < x := by omega
    clear h
    go_enter Try.func95, Try.ntmps95
    go_wp2
    go_ret
    exact ⟨ret_bool (decide_eq_false (by omega)), rfl⟩

set_option maxHeartbeats 800000 in
theorem perm_any {A : Option Addr} {c : Nat} {xs : List Int} {n : Nat} (w : World) (hx : xs.length = n) (ha : Rd w A (ints xs)) (hn : n ≤ 1048576) :
    Calls Try.prog 71 #[.slice A n c] w fun e w' => e = .returned (.bool (okP xs)) ∧ Below w.heap.size w w' := by
  by_cases h4 : 400 < n
  · have ho := not_ok_long hx h4
    have HO := Lib.hid ho
    clear ho hx ha
    go_enter Try.func71, Try.ntmps71
    go_wp2
    go_ret
    exact ⟨ret_bool HO.out.symm, Below.refl _ _⟩
  · have HX := Lib.hid hx
    have HA := Lib.hid ha
    clear hx ha
    have hmk := run_make_row' (P := Try.prog) 54 4 (.bool false) 1 Try.underlying54 Try.infoB rfl .i64 .i64 n (by omega) (by omega)
    go_enter Try.func71, Try.ntmps71
    go_wp2
    clear hmk
    go_loopw [4] (fun i wr => ∃ k : Nat, k ≤ n ∧ i = .int .i64 k ∧ wr.ownsRow w.heap.size 4 1 (.slice (some ⟨w.heap.size, 0, none⟩) n n) n (seenL n (xs.take k)) ∧ Below w.heap.size w wr ∧ goodTo xs n k) (fun i _ => n - (intOf i).toNat)
    case atStart => exact ⟨0, Nat.zero_le _, rfl, by simpa [seenL_nil] using make_own w (.bool false) n 4 (by unfold maxLen; omega), (Below.refl _ _).alloc (Nat.le_refl _) _, goodTo_zero _ _⟩
    case round =>
      obtain ⟨k, hk, rfl, own, bel, good⟩ := hrel
      have OWN := Lib.hid own
      have BEL := Lib.hid bel
      have GOOD := Lib.hid good
      clear own bel good
      by_cases hlt : k < n
      · obtain ⟨b, o, x, rfl, hgx, hcx⟩ := (HA.out.keep BEL.out).int (k := k) (by rw [HX.out]; exact hlt)
        have HG := Lib.hid hgx
        clear hgx
        by_cases hr : x < 0 ∨ (n : Int) ≤ x
        · have ho := Lib.hid (not_ok_range HX.out HG.out hr)
          go_wp2_with ((with_reducible refine (in_no _ _ _ _ (by omega)).mono ?_); rintro e w' ⟨rfl, rfl⟩)
          go_ret
          exact ⟨ret_bool ho.out.symm, BEL.out⟩
        · obtain ⟨m, rfl⟩ := Int.eq_ofNat_of_zero_le (show 0 ≤ x by omega)
          have hm : m < n := by omega
          clear hr
          have hcs := own_cell OWN.out (seenL_at hm)
          have hfrz := OWN.out.frozenAt m
          by_cases hs : (m : Int) ∈ xs.take k
          · have ho := Lib.hid (not_ok_seen HG.out hs)
            have hd : decide ((m : Int) ∈ xs.take k) = true := decide_eq_true hs
            rw [hd] at hcs
            clear hs hd
            go_wp2_with ((with_reducible refine (in_yes _ _ _ _ (by omega) (by omega)).mono ?_); rintro e w' ⟨rfl, rfl⟩)
            go_ret
            exact ⟨ret_bool ho.out.symm, BEL.out⟩
          · have hd : decide ((m : Int) ∈ xs.take k) = false := decide_eq_false hs
            rw [hd] at hcs
            have G' := Lib.hid (goodTo_succ GOOD.out HG.out hm hs)
            clear hs hd
            go_wp2_with ((with_reducible refine (in_yes _ _ _ _ (by omega) (by omega)).mono ?_); rintro e w' ⟨rfl, rfl⟩)
            go_roundw
            case rel => exact ⟨k + 1, by omega, by go_num, by have h := (OWN.out.stored m (.bool true)).1; rwa [seenL_set, ← take_succ_of HG.out] at h, BEL.out.setCell (by simp) _, G'.out⟩
            case measure => simp [intOf]; omega
      · go_wp2
        go_ret
        exact ⟨ret_bool (goodTo_all HX.out (by omega) (by omega) GOOD.out).symm, BEL.out⟩
end Go.Proofs.Ytbjfeogkdfmjpaa
