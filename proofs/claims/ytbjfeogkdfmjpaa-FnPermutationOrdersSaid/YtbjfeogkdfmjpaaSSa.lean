import Derived.Test.YtbjfeogkdfmjpaaTurn
import Derived.Test.YtbjfeogkdfmjpaaWkE
namespace Go.Proofs.Ytbjfeogkdfmjpaa
open Go.RowKit

theorem Try.infoS : (Try.prog.info? 24).map (fun i => (i.zero, i.size, i.bytes)) = some (some (.slice none 0 0), 1, 24) := by kernel_rfl

/-- What the size test hands back: below 0, or all lengths are at most what it began with. -/
def SzOk (left : Int) (xss : List (List Int)) (w : World) (e : Ending) (w' : World) : Prop :=
  ∃ r : Int, e = .returned (.int .i64 r) ∧ -1 ≤ r ∧ r ≤ 1048576 ∧ (0 ≤ r → (xss.length : Int) ≤ left ∧ ∀ xs ∈ xss, (xs.length : Int) ≤ left) ∧ w = w'
def Sz1 (left : Int) (n : Nat) (w : World) (e : Ending) (w' : World) : Prop := ∃ r : Int, e = .returned (.int .i64 r) ∧ -1 ≤ r ∧ r ≤ left ∧ (0 ≤ r → (n : Int) ≤ left) ∧ w = w'

theorem sz1_any {A : Option Addr} {c n : Nat} (left : Int) (w : World) (h0 : 0 ≤ left) (h1 : left ≤ 1048576) (hn : n ≤ 9223372036854775807) :
    Calls Try.prog 100 #[.slice A n c, .int .i64 left] w (Sz1 left n w) := by
  by_cases hl : left - n < 0
  · go_enter Try.func100, Try.ntmps100
    go_wp2
    go_ret
    exact ⟨-1, rfl, by omega, by omega, by omega, rfl⟩
  · go_enter Try.func100, Try.ntmps100
    go_wp2
    go_ret
    exact ⟨left - n, rfl, by omega, by omega, by omega, rfl⟩

set_option maxHeartbeats 800000 in
theorem sz_any {A : Option Addr} {c n : Nat} {xss : List (List Int)} (w : World) (hx : xss.length = n) (ha : RdSS w A xss) (hn : n ≤ 9223372036854775807) :
    Calls Try.prog 59 #[.slice A n c, .int .i64 1048576] w (SzOk 1048576 xss w) := by
  have HX := Lib.hid hx
  have HA := Lib.hid ha
  clear hx ha
  by_cases hl : (1048576 : Int) - n < 0
  · go_enter Try.func59, Try.ntmps59
    go_wp2
    go_ret
    exact ⟨-1, rfl, by omega, by omega, by omega, rfl⟩
  go_enter Try.func59, Try.ntmps59
  go_wp2
  go_loop [1, 5] (fun q i => ∃ (k : Nat) (r : Int), k ≤ n ∧ i = .int .i64 k ∧ q = .int .i64 r ∧ 0 ≤ r ∧ r ≤ 1048576 ∧ ∀ xs ∈ xss.take k, (xs.length : Int) ≤ 1048576) (fun _ i => n - (intOf i).toNat)
  case atStart => exact ⟨0, _, Nat.zero_le _, rfl, rfl, by omega, by omega, by simp⟩
  case round =>
    obtain ⟨k, r, hk, rfl, rfl, h0, h1, hall⟩ := hrel
    have HALL := Lib.hid hall
    clear hall
    by_cases hlt : k < n
    · obtain ⟨b, o, A', c', xs, rfl, hg, hc, hr, hm⟩ := HA.out.row (k := k) (by rw [HX.out]; exact hlt)
      have HG := Lib.hid hg
      clear hg hr
      go_wp2_with fail
      refine (sz1_any r w h0 h1 hm).mono ?_
      rintro e w' ⟨r', rfl, g0, g1, g2, rfl⟩
      by_cases hneg : r' < 0
      · clear g2
        go_wp2
        go_ret
        exact ⟨-1, rfl, by omega, by omega, by omega, rfl⟩
      · have G2 := Lib.hid (g2 (by omega))
        clear g2
        go_wp2
        go_round
        case rel =>
          refine ⟨k + 1, r', by omega, by go_num, rfl, by omega, by omega, fun ys hy => ?_⟩
          rw [List.take_add_one, HG.out] at hy
          rcases List.mem_append.1 hy with h | h
          · exact HALL.out ys h
          · simp at h
            subst h
            have := G2.out
            omega
        case measure => simp [intOf]; omega
    · go_wp2
      go_ret
      refine ⟨r, rfl, by omega, by omega, fun _ => ⟨by rw [HX.out]; omega, fun xs hxs => HALL.out xs ?_⟩, rfl⟩
      rwa [List.take_of_length_le (by rw [HX.out]; omega)]
end Go.Proofs.Ytbjfeogkdfmjpaa
