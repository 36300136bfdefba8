import Derived.Test.YtbjfeogkdfmjpaaPwr
import Derived.Test.YtbjfeogkdfmjpaaWkN
namespace Go.Proofs.Ytbjfeogkdfmjpaa
open Go.RowKit

def unitL (n : Nat) : List Int := (List.range n).map fun (j : Nat) => (j : Int)
theorem unitL_succ (k : Nat) : unitL (k + 1) = unitL k ++ [(k : Int)] := by simp [unitL, List.range_succ]
def RetN (w : World) (L : List Int) (n : Nat) (e : Ending) (w' : World) : Prop :=
  ∃ A c, e = .returned (.slice A n c) ∧ w'.ownsRow w.heap.size 2 1 (.slice A n c) n (ints L) ∧ Below w.heap.size w w'
set_option maxHeartbeats 800000 in
theorem unit_any (n : Nat) (w : World) (hn : n ≤ 1048576) : Calls Try.prog 96 #[.int .i64 n] w (RetN w (unitL n) n) := by
  go_enter Try.func96, Try.ntmps96
  go_wp2
  go_loopw [3, 4] (fun v i wr => ∃ k : Nat, k ≤ n ∧ i = .int .i64 k ∧ ∃ A' c', v = .slice A' k c' ∧ wr.ownsRow w.heap.size 2 1 (.slice A' k c') k (ints (unitL k)) ∧ Below w.heap.size w wr) (fun _ i _ => n - (intOf i).toNat)
  case atStart => exact ⟨0, Nat.zero_le _, rfl, _, _, rfl, by simpa [unitL] using World.ownsRow_made (base := w.heap.size) (e := 2) (size := 1) w #[] 0 (Nat.le_refl _) (Nat.zero_le _) (by simp), (Below.refl _ _).alloc (Nat.le_refl _) _⟩
  case round =>
    obtain ⟨k, hk, rfl, A', c', rfl, own, bel⟩ := hrel
    have OWN := Lib.hid own
    have BEL := Lib.hid bel
    have hsz := bel.size
    clear own bel
    by_cases hlt : k < n
    · go_wp2_with (at_builtin; refine wpList_push _ rfl _ _ 24 2 rfl Try.underlying24 (.int .i64 0) 8 Try.info2 rfl w.heap.size _ _ _ rfl OWN.out _ rfl rfl (by omega) (by omega) (by omega) ?_)
      intro A3 c3 w3 own3 bel3 _
      have OWN3 := Lib.hid own3
      have BEL3 := Lib.hid bel3
      clear own3 bel3
      go_wp2
      go_roundw
      case rel => exact ⟨k + 1, by omega, by go_num, A3, c3, rfl, by rw [unitL_succ]; simpa using OWN3.out, BEL.out.trans BEL3.out⟩
      case measure => simp [intOf]; omega
    · go_wp2
      go_ret
      obtain rfl : k = n := by omega
      exact ⟨A', c', rfl, OWN.out, BEL.out⟩

theorem sthen_pow {A A2 : Option Addr} {c c2 : Nat} {xs : List Int} {n a b : Nat} (w : World) (hx : xs.length = n) (hr : InR xs n) (hn : n ≤ 1048576) (h1 : Rd w A (ints (powN xs n a))) (h2 : Rd w A2 (ints (powN xs n b))) :
    Calls Try.prog 81 #[.slice A n c, .slice A2 n c2] w (RetN w (powN xs n (a + b)) n) := by
  refine (sthen_any w (powN_length _ _ _) h1 hn (powN_length _ _ _) h2 (inR_powN hx hr a)).mono ?_
  rintro e w' ⟨A', c', h3, h4, h5⟩
  rw [then_powN hx hr, powN_length] at h3 h4
  exact ⟨A', c', h3, h4, h5⟩
theorem back_n {A : Option Addr} {c : Nat} {xs : List Int} {n : Nat} (w : World) (hx : xs.length = n) (ha : Rd w A (ints xs)) (hn : n ≤ 1048576) (hp : okP xs = true) :
    Calls Try.prog 82 #[.slice A n c] w (RetN w (invL xs) n) := by
  refine (back_any w hx ha hn hp).mono ?_
  rintro e w' ⟨A', c', h3, h4, h5⟩
  rw [invL_len, hx] at h3 h4
  exact ⟨A', c', h3, h4, h5⟩
structure PwIn (w wr : World) (B : List Int) (n K q : Nat) (A6 A7 : Option Addr) (c7 : Nat) (a b : Nat) : Prop where
  sum : a + q * b = K
  step : Rd wr A6 (ints (powN B n b))
  out : wr.ownsRow w.heap.size 2 1 (.slice A7 n c7) n (ints (powN B n a))
  bel : Below w.heap.size w wr
theorem PwIn.odd {w wr w2 w3 : World} {B : List Int} {n K q : Nat} {A6 A7 A8 A9 : Option Addr} {c7 c8 c9 a b : Nat} (h : PwIn w wr B n K q A6 A7 c7 a b) (ho : q % 2 = 1)
    (h1 : w2.ownsRow wr.heap.size 2 1 (.slice A8 n c8) n (ints (powN B n (a + b)))) (b1 : Below wr.heap.size wr w2)
    (h2 : w3.ownsRow w2.heap.size 2 1 (.slice A9 n c9) n (ints (powN B n (b + b)))) (b2 : Below w2.heap.size w2 w3) : PwIn w w3 B n K (q / 2) A9 A8 c8 (a + b) (b + b) := by
  have e := Nat.div_add_mod q 2
  refine ⟨?_, own_rd h2, own_base (own_below h1 b2 (Nat.le_refl _)) h.bel.size, h.bel.trans ((b1.trans (b2.mono b1.size)).mono h.bel.size)⟩
  rw [← h.sum, ← Nat.two_mul, ← Nat.mul_assoc]
  rw [ho] at e
  conv => rhs; rw [← e]
  rw [Nat.add_mul, Nat.one_mul, Nat.mul_comm (q / 2) 2]
  omega
theorem PwIn.even {w wr w3 : World} {B : List Int} {n K q : Nat} {A6 A7 A9 : Option Addr} {c7 c9 a b : Nat} (h : PwIn w wr B n K q A6 A7 c7 a b) (ho : ¬ q % 2 = 1)
    (h2 : w3.ownsRow wr.heap.size 2 1 (.slice A9 n c9) n (ints (powN B n (b + b)))) (b2 : Below wr.heap.size wr w3) : PwIn w w3 B n K (q / 2) A9 A7 c7 a (b + b) := by
  have e := Nat.div_add_mod q 2
  refine ⟨?_, own_rd h2, own_below h.out b2 (Nat.le_refl _), h.bel.trans (b2.mono h.bel.size)⟩
  rw [← h.sum, ← Nat.two_mul, ← Nat.mul_assoc]
  have ho : q % 2 = 0 := by omega
  rw [ho] at e
  conv => rhs; rw [← e]
  rw [Nat.add_zero, Nat.mul_comm (q / 2) 2]

set_option maxHeartbeats 1600000 in
theorem sPow_any {A : Option Addr} {c : Nat} {xs : List Int} {n : Nat} (k : Int) (w : World) (hx : xs.length = n) (ha : Rd w A (ints xs)) (hn : n ≤ 1048576) :
    Calls Try.prog 55 #[.slice A n c, .int .i64 k] w (RetS w (powR xs k) (powC xs k)) := by
  have HX := Lib.hid hx
  have HA := Lib.hid ha
  clear hx ha
  cases hp : okP xs
  · have hr : powR xs k = [] := by simp [powR, hp]
    have hc : powC xs k = 1 := by simp [powC, hp]
    rw [hr, hc]
    have HP := Lib.hid hp
    clear hp hr hc
    go_enter Try.func55, Try.ntmps55
    go_wp2_with fail
    refine (perm_any w HX.out HA.out hn).mono ?_
    rintro e w' ⟨rfl, bel⟩
    rw [HP.out]
    have BEL := Lib.hid bel
    clear bel
    go_wp2
    go_ret2
    exact ⟨none, 0, rfl, World.ownsRow_nil _ _ _ _, BEL.out⟩
  by_cases hk : k < -1000000000 ∨ 1000000000 < k
  · have hr : powR xs k = [] := by simp [powR, hp, hk]
    have hc : powC xs k = 2 := by simp [powC, hp, hk]
    rw [hr, hc]
    have HP := Lib.hid hp
    clear hp hr hc
    go_enter Try.func55, Try.ntmps55
    go_wp2_with fail
    refine (perm_any w HX.out HA.out hn).mono ?_
    rintro e w' ⟨rfl, bel⟩
    rw [HP.out]
    have BEL := Lib.hid bel
    clear bel
    go_wp2_with fail
    refine (in_no k _ _ w' hk).mono ?_
    rintro e w1 ⟨rfl, rfl⟩
    go_wp2
    go_ret2
    exact ⟨none, 0, rfl, World.ownsRow_nil _ _ _ _, BEL.out⟩
  have hr : powR xs k = powL xs k := by simp [powR, hp, hk]
  have hc : powC xs k = 0 := by simp [powC, hp, hk]
  rw [hr, hc]
  have HP := Lib.hid hp
  have hk1 : -1000000000 ≤ k := by omega
  have hk2 : k ≤ 1000000000 := by omega
  have HN := Lib.hid (show (powL xs k).length = n by rw [powL_length, HX.out])
  clear hp hr hc hk
  by_cases hneg : k < 0
  · obtain ⟨K, rfl⟩ : ∃ K : Nat, k = -(K : Int) := ⟨k.natAbs, by omega⟩
    have HL := Lib.hid (show powN (invL xs) n K = powL xs (-(K : Int)) by unfold powL pwBase; rw [if_pos hneg, HX.out]; congr 1; omega)
    have HBL := Lib.hid (show (invL xs).length = n by rw [invL_len, HX.out])
    have HBR := Lib.hid (show InR (invL xs) n by have := inR_inv xs; rwa [HX.out] at this)
    have hww : wrap64 (-(-(K : Int))) = (K : Int) := by rw [Int.neg_neg]; exact IntWalk.wrap64_in _ (by omega)
    go_enter Try.func55, Try.ntmps55
    go_wp2_with fail
    refine (perm_any w HX.out HA.out hn).mono ?_
    rintro e w' ⟨rfl, bel⟩
    rw [HP.out]
    have BEL := Lib.hid bel
    clear bel
    go_wp2_with fail
    refine (in_yes _ _ _ w' hk1 hk2).mono ?_
    rintro e w1 ⟨rfl, rfl⟩
    go_wp2_with fail
    refine (back_n w' HX.out (HA.out.keep BEL.out) hn HP.out).mono ?_
    rintro e w1 ⟨A6, c6, rfl, own, bel⟩
    have RB := Lib.hid (own_rd own)
    have BELS := Lib.hid (BEL.out.trans (bel.mono BEL.out.size))
    clear own bel
    go_wp2_with fail
    refine (unit_any n w1 hn).mono ?_
    rintro e w2 ⟨A7, c7, rfl, own, bel⟩
    have ST := Lib.hid (show PwIn w w2 (invL xs) n K K A6 A7 c7 0 1 from ⟨by simp, by rw [powN_one HBL.out]; exact RB.out.keep bel, by simpa [powN, it, unitL] using own_base own BELS.out.size, BELS.out.trans (bel.mono BELS.out.size)⟩)
    clear own bel
    go_wp2
    go_loopw [1, 6, 7] (fun kk s o wr => ∃ (q a b c6 c7 : Nat) (A6 A7 : Option Addr), kk = .int .i64 q ∧ q ≤ 1000000000 ∧ s = .slice A6 n c6 ∧ o = .slice A7 n c7 ∧ PwIn w wr (invL xs) n K q A6 A7 c7 a b) (fun kk _ _ _ => (intOf kk).toNat)
    case atStart => exact ⟨K, 0, 1, c6, c7, A6, A7, by first | rfl | (simp) | go_num, by omega, rfl, rfl, ST.out⟩
    case round =>
      obtain ⟨q, a, b, c6, c7, A6, A7, rfl, hq, rfl, rfl, st⟩ := hrel
      have ST2 := Lib.hid st
      clear st
      by_cases h0 : 0 < q
      · by_cases hodd : q % 2 = 1
        · have hrem : ((q : Int) % 2 == 1) = true := by rw [beq_iff_eq]; omega
          go_wp2_with fail
          refine (sthen_pow wr HBL.out HBR.out hn (own_rd ST2.out.out) ST2.out.step).mono ?_
          rintro e w3 ⟨A8, c8, rfl, own3, bel3⟩
          have OWN3 := Lib.hid own3
          have BEL3 := Lib.hid bel3
          clear own3 bel3
          go_wp2_with fail
          refine (sthen_pow w3 HBL.out HBR.out hn (ST2.out.step.keep BEL3.out) (ST2.out.step.keep BEL3.out)).mono ?_
          rintro e w4 ⟨A9, c9, rfl, own4, bel4⟩
          have H := Lib.hid (ST2.out.odd hodd OWN3.out BEL3.out own4 bel4)
          clear own4 bel4
          go_wp2
          go_roundw
          case rel => exact ⟨q / 2, _, _, _, _, _, _, by go_num, by omega, rfl, rfl, H.out⟩
          case measure => simp [intOf]; omega
        · have hrem : ((q : Int) % 2 == 1) = false := by rw [beq_eq_false_iff_ne]; omega
          go_wp2_with fail
          refine (sthen_pow wr HBL.out HBR.out hn ST2.out.step ST2.out.step).mono ?_
          rintro e w4 ⟨A9, c9, rfl, own4, bel4⟩
          have H := Lib.hid (ST2.out.even hodd own4 bel4)
          clear own4 bel4
          go_wp2
          go_roundw
          case rel => exact ⟨q / 2, _, _, _, _, _, _, by go_num, by omega, rfl, rfl, H.out⟩
          case measure => simp [intOf]; omega
      · obtain rfl : q = 0 := by omega
        go_wp2
        go_ret2
        have hs := ST2.out.sum
        have hb := ST2.out.bel
        have ho := ST2.out.out
        obtain rfl : a = K := by simpa using hs
        rw [HL.out] at ho
        exact ⟨A7, c7, by rw [HN.out]; rfl, by rw [HN.out]; exact ho, hb⟩
  · obtain ⟨K, rfl⟩ : ∃ K : Nat, k = (K : Int) := ⟨k.natAbs, by omega⟩
    have HL := Lib.hid (show powN xs n K = powL xs (K : Int) by unfold powL pwBase; rw [if_neg hneg, HX.out]; congr 1)
    have HBL := Lib.hid HX.out
    have HBR := Lib.hid (show InR xs n by have := inR_ok HP.out; rwa [HX.out] at this)
    go_enter Try.func55, Try.ntmps55
    go_wp2_with fail
    refine (perm_any w HX.out HA.out hn).mono ?_
    rintro e w' ⟨rfl, bel⟩
    rw [HP.out]
    have BELS := Lib.hid bel
    clear bel
    go_wp2_with fail
    refine (in_yes _ _ _ w' hk1 hk2).mono ?_
    rintro e w1 ⟨rfl, rfl⟩
    have RB := Lib.hid (HA.out.keep BELS.out)
    go_wp2_with fail
    refine (unit_any n w' hn).mono ?_
    rintro e w2 ⟨A7, c7, rfl, own, bel⟩
    have ST := Lib.hid (show PwIn w w2 xs n K K A A7 c7 0 1 from ⟨by simp, by rw [powN_one HBL.out]; exact RB.out.keep bel, by simpa [powN, it, unitL] using own_base own BELS.out.size, BELS.out.trans (bel.mono BELS.out.size)⟩)
    clear own bel
    go_wp2
    go_loopw [1, 6, 7] (fun kk s o wr => ∃ (q a b c6 c7 : Nat) (A6 A7 : Option Addr), kk = .int .i64 q ∧ q ≤ 1000000000 ∧ s = .slice A6 n c6 ∧ o = .slice A7 n c7 ∧ PwIn w wr xs n K q A6 A7 c7 a b) (fun kk _ _ _ => (intOf kk).toNat)
    case atStart => exact ⟨K, 0, 1, c, c7, A, A7, by first | rfl | (simp) | go_num, by omega, rfl, rfl, ST.out⟩
    case round =>
      obtain ⟨q, a, b, c6, c7, A6, A7, rfl, hq, rfl, rfl, st⟩ := hrel
      have ST2 := Lib.hid st
      clear st
      by_cases h0 : 0 < q
      · by_cases hodd : q % 2 = 1
        · have hrem : ((q : Int) % 2 == 1) = true := by rw [beq_iff_eq]; omega
          go_wp2_with fail
          refine (sthen_pow wr HBL.out HBR.out hn (own_rd ST2.out.out) ST2.out.step).mono ?_
          rintro e w3 ⟨A8, c8, rfl, own3, bel3⟩
          have OWN3 := Lib.hid own3
          have BEL3 := Lib.hid bel3
          clear own3 bel3
          go_wp2_with fail
          refine (sthen_pow w3 HBL.out HBR.out hn (ST2.out.step.keep BEL3.out) (ST2.out.step.keep BEL3.out)).mono ?_
          rintro e w4 ⟨A9, c9, rfl, own4, bel4⟩
          have H := Lib.hid (ST2.out.odd hodd OWN3.out BEL3.out own4 bel4)
          clear own4 bel4
          go_wp2
          go_roundw
          case rel => exact ⟨q / 2, _, _, _, _, _, _, by go_num, by omega, rfl, rfl, H.out⟩
          case measure => simp [intOf]; omega
        · have hrem : ((q : Int) % 2 == 1) = false := by rw [beq_eq_false_iff_ne]; omega
          go_wp2_with fail
          refine (sthen_pow wr HBL.out HBR.out hn ST2.out.step ST2.out.step).mono ?_
          rintro e w4 ⟨A9, c9, rfl, own4, bel4⟩
          have H := Lib.hid (ST2.out.even hodd own4 bel4)
          clear own4 bel4
          go_wp2
          go_roundw
          case rel => exact ⟨q / 2, _, _, _, _, _, _, by go_num, by omega, rfl, rfl, H.out⟩
          case measure => simp [intOf]; omega
      · obtain rfl : q = 0 := by omega
        go_wp2
        go_ret2
        have hs := ST2.out.sum
        have hb := ST2.out.bel
        have ho := ST2.out.out
        obtain rfl : a = K := by simpa using hs
        rw [HL.out] at ho
        exact ⟨A7, c7, by rw [HN.out]; rfl, by rw [HN.out]; exact ho, hb⟩
end Go.Proofs.Ytbjfeogkdfmjpaa
