import Derived.Test.YtbjfeogkdfmjpaaWkD
namespace Go.Proofs.Ytbjfeogkdfmjpaa
open Go.RowKit

set_option maxHeartbeats 800000 in
theorem valid_any {A : Option Addr} {c : Nat} {xs : List Int} {n : Nat} (w : World) (hx : xs.length = n) (ha : Rd w A (ints xs)) (hn : n ≤ 1048576) :
    Calls Try.prog 73 #[.slice A n c] w fun e w' => e = .returned (.bool (okP xs)) ∧ Below w.heap.size w w' := by
  by_cases h4 : 400 < n
  · have ho := not_ok_long hx h4
    have HO := Lib.hid ho
    clear ho hx ha
    go_enter Try.func73, Try.ntmps73
    go_wp2
    go_ret
    exact ⟨ret_bool HO.out.symm, Below.refl _ _⟩
  · have HX := Lib.hid hx
    have HA := Lib.hid ha
    clear hx ha
    have hmk := run_make_row' (P := Try.prog) 54 4 (.bool false) 1 Try.underlying54 Try.infoB rfl .i64 .i64 n (by omega) (by omega)
    go_enter Try.func73, Try.ntmps73
    go_wp2
    clear hmk
    go_loopw [14] (fun i wr => ∃ k : Nat, k ≤ n ∧ i = .int .i64 k ∧ wr.ownsRow w.heap.size 4 1 (.slice (some ⟨w.heap.size, 0, none⟩) n n) n (seenL n (xs.take k)) ∧ Below w.heap.size w wr ∧ goodTo xs n k) (fun i _ => n - (intOf i).toNat)
    case atStart => exact ⟨0, Nat.zero_le _, rfl, by simpa [seenL_nil] using make_own w (.bool false) n 4 (by unfold maxLen; omega), (Below.refl _ _).alloc (Nat.le_refl _) _, goodTo_zero _ _⟩
    case round =>
      obtain ⟨k, hk, rfl, own, bel, good⟩ := hrel
      have OWN := Lib.hid own
      have BEL := Lib.hid bel
      have GOOD := Lib.hid good
      clear own bel good
      by_cases hlt : k < n
      · obtain ⟨b, o, x, rfl, hgx, hcx⟩ := (HA.out.keep BEL.out).int (k := k) (by rw [HX.out]; exact hlt)
        have HG := Lib.hid hgx
        clear hgx
        by_cases hr : x < 0
        · have ho := Lib.hid (not_ok_range HX.out HG.out (.inl hr))
          go_wp2
          go_ret
          exact ⟨ret_bool ho.out.symm, BEL.out⟩
        by_cases hr2 : (n : Int) ≤ x
        · have ho := Lib.hid (not_ok_range HX.out HG.out (.inr hr2))
          go_wp2
          go_ret
          exact ⟨ret_bool ho.out.symm, BEL.out⟩
        obtain ⟨m, rfl⟩ := Int.eq_ofNat_of_zero_le (show 0 ≤ x by omega)
        have hm : m < n := by omega
        clear hr hr2
        have hcs := own_cell OWN.out (seenL_at hm)
        have hfrz := OWN.out.frozenAt m
        by_cases hs : (m : Int) ∈ xs.take k
        · have ho := Lib.hid (not_ok_seen HG.out hs)
          have hd : decide ((m : Int) ∈ xs.take k) = true := decide_eq_true hs
          rw [hd] at hcs
          clear hs hd
          go_wp2
          go_ret
          exact ⟨ret_bool ho.out.symm, BEL.out⟩
        · have hd : decide ((m : Int) ∈ xs.take k) = false := decide_eq_false hs
          rw [hd] at hcs
          have G' := Lib.hid (goodTo_succ GOOD.out HG.out hm hs)
          clear hs hd
          go_wp2
          go_roundw
          case rel => exact ⟨k + 1, by omega, by go_num, by have h := (OWN.out.stored m (.bool true)).1; rwa [seenL_set, ← take_succ_of HG.out] at h, BEL.out.setCell (by simp) _, G'.out⟩
          case measure => simp [intOf]; omega
      · go_wp2
        go_ret
        exact ⟨ret_bool (goodTo_all HX.out (by omega) (by omega) GOOD.out).symm, BEL.out⟩

theorem sperm_any {A : Option Addr} {c : Nat} {xs : List Int} {n : Nat} (w : World) (hx : xs.length = n) (ha : Rd w A (ints xs)) (hn : n ≤ 1048576) :
    Calls Try.prog 24 #[.slice A n c] w fun e w' => e = .returned (.bool (okP xs)) ∧ Below w.heap.size w w' := by
  have HX := Lib.hid hx
  have HA := Lib.hid ha
  clear hx ha
  go_enter Try.func24, Try.ntmps24
  go_wp2_with fail
  refine (perm_any w HX.out HA.out hn).mono ?_
  rintro e w' ⟨rfl, bel⟩
  go_wp2
  go_ret
  exact ⟨rfl, bel⟩
theorem iperm_any {A : Option Addr} {c : Nat} {xs : List Int} {n : Nat} (w : World) (hx : xs.length = n) (ha : Rd w A (ints xs)) (hn : n ≤ 1048576) :
    Calls Try.prog 23 #[.slice A n c] w fun e w' => e = .returned (.bool (okP xs)) ∧ Below w.heap.size w w' := by
  have HX := Lib.hid hx
  have HA := Lib.hid ha
  clear hx ha
  go_enter Try.func23, Try.ntmps23
  go_wp2_with fail
  refine (valid_any w HX.out HA.out hn).mono ?_
  rintro e w' ⟨rfl, bel⟩
  go_wp2
  go_ret
  exact ⟨rfl, bel⟩
end Go.Proofs.Ytbjfeogkdfmjpaa
