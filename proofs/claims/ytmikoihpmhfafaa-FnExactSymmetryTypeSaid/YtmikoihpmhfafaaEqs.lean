/- slices.Equal at []int64. -/
import Derived.Test.YtmikoihpmhfafaaL9
import Derived.Lib.SliceRun
namespace Go.Proofs.Ytmikoihpmhfafaa
open Go.RowKit

set_option maxHeartbeats 800000 in
theorem eqs_any {A B : Option Addr} {c d n : Nat} {xs ys : List Int} {r : Bool} (w : World) (hx : xs.length = n) (hy : ys.length = n) (ha : Rd w A (ints xs)) (hb : Rd w B (ints ys)) (hn : n ≤ 1048576) (hr : decide (xs = ys) = r) :
    Calls Try.prog 181 #[.slice A n c, .slice B n d] w fun e w' => e = .returned (.bool r) ∧ Below w.heap.size w w' := by
  have HX := Lib.hid hx
  have HY := Lib.hid hy
  have HA := Lib.hid ha
  have HB := Lib.hid hb
  have HR := Lib.hid hr
  have hnn : ((n : Int) != (n : Int)) = false := by simp
  clear hx hy ha hb hr
  go_enter Try.func181, Try.ntmps181
  go_wp2
  go_loopw [13] (fun v wr => ∃ k : Nat, k ≤ n ∧ v = .int .i64 k ∧ xs.take k = ys.take k ∧ Below w.heap.size w wr) (fun v _ => n - (intOf v).toNat)
  case atStart => exact ⟨0, Nat.zero_le _, rfl, by simp, Below.refl _ _⟩
  case round =>
    obtain ⟨k, hk, rfl, ht, bel⟩ := hrel
    have HT := Lib.hid ht
    have BE := Lib.hid bel
    clear ht bel
    by_cases hlt : k < n
    · obtain ⟨b1, o1, x, rfl, hgx, hcx⟩ := (HA.out.keep BE.out).int (k := k) (by rw [HX.out]; exact hlt)
      obtain ⟨b2, o2, y, rfl, hgy, hcy⟩ := (HB.out.keep BE.out).int (k := k) (by rw [HY.out]; exact hlt)
      have px := BelowOf.cell hcx
      have py := BelowOf.cell hcy
      have kI : (k : Int) < (n : Int) := by omega
      have kz : (0 : Int) ≤ (k : Int) := by omega
      have HGX := Lib.hid hgx
      have HGY := Lib.hid hgy
      clear hgx hgy hcx hcy
      by_cases he : x = y
      · have hne : (x != y) = false := by rw [he]; simp
        have HT2 := Lib.hid (show xs.take (k + 1) = ys.take (k + 1) by rw [take_succ_of HGX.out, take_succ_of HGY.out, HT.out, he])
        clear he
        go_wp2
        refine wp_region_quiet_below (by kernel_rfl) (by kernel_rfl) ?_
        repeat (go_big_quiet_step ((fail)))
        refine wpQuiet_nil ?_
        intro _ hw'
        obtain ⟨⟨wq, hbq⟩, hw''⟩ := hw'
        subst hw''
        have BE2 := Lib.hid (BE.out.trans (hbq.mono BE.out.size))
        clear hbq
        go_wp2
        go_roundw
        case rel => exact ⟨k + 1, by omega, by go_num, HT2.out, BE2.out⟩
        case measure => simp [intOf]; omega
      · have hne : (x != y) = true := by rw [bne_iff_ne]; exact he
        have HF := Lib.hid (show r = false from by
          rw [← HR.out, decide_eq_false_iff_not]
          intro h
          have h1 := HGX.out
          rw [h, HGY.out] at h1
          injection h1 with h1
          exact he h1.symm)
        clear he
        go_wp2
        refine wp_region_quiet_below (by kernel_rfl) (by kernel_rfl) ?_
        repeat (go_big_quiet_step ((fail)))
        refine wpQuiet_nil ?_
        intro _ hw'
        obtain ⟨⟨wq, hbq⟩, hw''⟩ := hw'
        subst hw''
        have BE2 := Lib.hid (BE.out.trans (hbq.mono BE.out.size))
        clear hbq
        go_wp2
        go_ret
        exact ⟨ret_bool HF.out.symm, BE2.out⟩
    · have HF := Lib.hid (show r = true from by
        rw [← HR.out, decide_eq_true_eq]
        have := HT.out
        rwa [List.take_of_length_le (by rw [HX.out]; omega), List.take_of_length_le (by rw [HY.out]; omega)] at this)
      go_wp2
      go_ret
      exact ⟨ret_bool HF.out.symm, BE.out⟩
end Go.Proofs.Ytmikoihpmhfafaa
