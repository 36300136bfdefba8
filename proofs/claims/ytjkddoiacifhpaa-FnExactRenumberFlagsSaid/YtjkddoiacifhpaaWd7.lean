import Derived.Test.YtjkddoiacifhpaaWd6
namespace Go.Proofs.Ytjkddoiacifhpaa
open Go.RowKit

set_option maxHeartbeats 1600000 in
theorem sEulerCharacteristic_any {A : Option Addr} {c N : Nat} {xss : List (List Int)} (w : World) (hx : xss.length = N) (ha : RdSS w A xss) (hN : N ≤ 1048576) (hr : ∀ xs ∈ xss, (xs.length : Int) ≤ 1048576) :
    Calls Try.prog 88 #[.agg #[.slice A N c]] w fun e w' => e = .returned (.tuple #[.int .i64 (euR xss), .int .i64 (manC xss)]) ∧ Below w.heap.size w w' := by
  have HX := Lib.hid hx
  have HA := Lib.hid ha
  have HR := Lib.hid hr
  cases ho : okMan xss
  · have h1 : euR xss = 0 := by simp [euR, ho]
    have h2 : manC xss = 1 := by simp [manC, ho]
    rw [h1, h2]
    have HO := Lib.hid ho
    clear hx ha hr ho h1 h2
    go_enter Try.func88, Try.ntmps88
    go_wp2_with fail
    refine (sIs_any _ HX.out (HA.out.al _) hN HR.out).mono ?_
    rintro e w1 ⟨rfl, bel⟩
    rw [HO.out]
    have BEL := Lib.hid bel
    clear bel
    go_wp2
    go_ret2
    exact ⟨rfl, (below1 w _).trans (BEL.out.mono (by simp))⟩
  · have hman := okMan_iff.1 ho
    have hsys := hman.sys
    have hn4 := hman.f4
    have hn2 := hman.f2
    have hpos := hman.pos hx
    have hallq : ∀ q : Nat, q < flN xss → (orbL xss (flN xss) q).length = flN xss := fun q hq => hman.all hq
    obtain ⟨b, o, A0, c0, rfl, hc0⟩ := man_row0 hman ha
    obtain ⟨n, hn⟩ : ∃ n, flN xss = n := ⟨_, rfl⟩
    rw [hn] at hc0 hsys hn4 hn2 hallq
    have HC0 := Lib.hid hc0
    have HO := Lib.hid ho
    have HSY := Lib.hid hsys
    have HALLQ := Lib.hid hallq
    have HMAN := Lib.hid hman
    have HFL := Lib.hid hn
    have BX0 := Lib.hid (Bx.start w (.slice (some ⟨b, o, none⟩) N c) 51)
    have hn6 : n ≤ 1048576 := by omega
    have h1 : euR xss = eulTo (cntTo xss n N) N := by simp [euR, ho, hn, hx]
    have h2 : manC xss = 0 := by simp [manC, ho]
    rw [h1, h2]
    clear hx ha hr ho hman hn hc0 hsys hallq h1 h2
    go_enter Try.func88, Try.ntmps88
    go_wp2_with fail
    refine (sIs_any _ HX.out (HA.out.al _) hN HR.out).mono ?_
    rintro e w1 ⟨rfl, bel⟩
    rw [HO.out]
    have BX1 := Lib.hid (BX0.out.go bel)
    have HC1 := Lib.hid (cell_be (cell_al HC0.out _) bel)
    have hbc1 := BX1.out.cell
    clear bel BX0
    have HAB := Lib.hid (HA.out.keep BX1.out.below)
    go_wp2_with fail
    refine (scnt_any _ HX.out HAB.out HSY.out HC1.out).mono ?_
    rintro e w2 ⟨A9, c9, rfl, own, bel⟩
    have OWN := Lib.hid own
    have BX2 := Lib.hid (BX1.out.go bel)
    have HIN := Lib.hid (cnt_in (N := N) HSY.out)
    have hN16 : N ≤ 5 := by have := HMAN.out.r5; have := HX.out; omega
    clear bel hbc1 own
    go_wp2_with fail
    refine (euler_any _ (cntTo_len _ _ _) (own_rd OWN.out) (by omega) HIN.out).mono ?_
    rintro e w9 ⟨rfl, rfl⟩
    go_wp2
    go_ret2
    exact ⟨rfl, BX2.out.below⟩
set_option maxHeartbeats 1600000 in
theorem iEulerCharacteristic_any {A : Option Addr} {c N : Nat} {xss : List (List Int)} (w : World) (hx : xss.length = N) (ha : RdSS w A xss) (hN : N ≤ 1048576) (hr : ∀ xs ∈ xss, (xs.length : Int) ≤ 1048576) (hcap : N ≤ c) (hc63 : c ≤ 9223372036854775807) :
    Calls Try.prog 54 #[.agg #[.slice A N c]] w fun e w' => e = .returned (.tuple #[.int .i64 (euR xss), .int .i64 (manC xss)]) ∧ Below w.heap.size w w' := by
  have HX := Lib.hid hx
  have HA := Lib.hid ha
  have HR := Lib.hid hr
  cases ho : okMan xss
  · have h1 : euR xss = 0 := by simp [euR, ho]
    have h2 : manC xss = 1 := by simp [manC, ho]
    rw [h1, h2]
    have HO := Lib.hid ho
    clear hx ha hr ho h1 h2
    go_enter Try.func54, Try.ntmps54
    go_wp2_with fail
    refine (iMan_any _ HX.out (HA.out.al _) hN HR.out).mono ?_
    rintro e w1 ⟨rfl, bel⟩
    rw [HO.out]
    have BEL := Lib.hid bel
    clear bel
    go_wp2
    go_ret2
    exact ⟨rfl, (below1 w _).trans (BEL.out.mono (by simp))⟩
  · have hman := okMan_iff.1 ho
    have hsys := hman.sys
    have hn4 := hman.f4
    have hn2 := hman.f2
    have hpos := hman.pos hx
    have hallq : ∀ q : Nat, q < flN xss → (orbL xss (flN xss) q).length = flN xss := fun q hq => hman.all hq
    obtain ⟨b, o, A0, c0, rfl, hc0⟩ := man_row0 hman ha
    obtain ⟨n, hn⟩ : ∃ n, flN xss = n := ⟨_, rfl⟩
    rw [hn] at hc0 hsys hn4 hn2 hallq
    have HC0 := Lib.hid hc0
    have HO := Lib.hid ho
    have HSY := Lib.hid hsys
    have HALLQ := Lib.hid hallq
    have HMAN := Lib.hid hman
    have HFL := Lib.hid hn
    have BX0 := Lib.hid (Bx.start w (.slice (some ⟨b, o, none⟩) N c) 51)
    have hn6 : n ≤ 1048576 := by omega
    have h1 : euR xss = eulTo (cntTo xss n N) N := by simp [euR, ho, hn, hx]
    have h2 : manC xss = 0 := by simp [manC, ho]
    rw [h1, h2]
    clear hx ha hr ho hman hn hc0 hsys hallq h1 h2
    go_enter Try.func54, Try.ntmps54
    go_wp2_with fail
    refine (iMan_any _ HX.out (HA.out.al _) hN HR.out).mono ?_
    rintro e w1 ⟨rfl, bel⟩
    rw [HO.out]
    have BX1 := Lib.hid (BX0.out.go bel)
    have HC1 := Lib.hid (cell_be (cell_al HC0.out _) bel)
    have hbc1 := BX1.out.cell
    clear bel BX0
    have HAB := Lib.hid (HA.out.keep BX1.out.below)
    go_wp2_with fail
    refine (icnt_any _ HX.out HAB.out HSY.out HC1.out hcap hc63 (by omega)).mono ?_
    rintro e w2 ⟨A9, c9, rfl, own, bel⟩
    have OWN := Lib.hid own
    have BX2 := Lib.hid (BX1.out.go bel)
    have HIN := Lib.hid (cnt_in (N := N) HSY.out)
    have hN16 : N ≤ 5 := by have := HMAN.out.r5; have := HX.out; omega
    clear bel hbc1 own
    have HL := Lib.hid (cntTo_len xss n N)
    go_wp2
    go_loop [4, 5, 14] (fun v s i => ∃ (k : Nat) (M g : Int), k ≤ N ∧ i = .int .i64 k ∧ v = .int .i64 M ∧ s = .int .i64 g ∧ M = eulTo (cntTo xss n N) k ∧ g = if k % 2 = 0 then 1 else -1) (fun _ _ i => N - (intOf i).toNat)
    case atStart => exact ⟨0, 0, 1, Nat.zero_le _, rfl, rfl, rfl, by simp [eulTo], by simp⟩
    case round =>
      obtain ⟨k, M, g, hk, rfl, rfl, rfl, hM, hg⟩ := hrel
      have hbd := eulTo_bd HIN.out k
      rw [← hM] at hbd
      have HM := Lib.hid hM
      have HG := Lib.hid hg
      clear hM hg
      by_cases hlt : k < N
      · obtain ⟨b5, o5, x, rfl, hgx, hcx⟩ := (own_rd OWN.out).int (k := k) (by rw [HL.out]; exact hlt)
        have hxb := HIN.out x (List.mem_of_getElem? hgx)
        have HE := Lib.hid (show (cntTo xss n N).getD k 0 = x by simp [List.getD, hgx])
        clear hgx
        by_cases hp : k % 2 = 0
        · obtain rfl : g = 1 := by rw [HG.out, if_pos hp]
          have hm1 : IntKind.i64.wrap (1 * x) = x := by rw [Int.one_mul]; exact IntWalk.i64_in _ (by omega)
          go_wp2
          go_round
          case rel => exact ⟨k + 1, M + x, -1, by omega, by go_num, rfl, rfl, by rw [eulTo, if_pos hp, HE.out, HM.out], by rw [if_neg (by omega)]⟩
          case measure => simp [intOf]; omega
        · obtain rfl : g = -1 := by rw [HG.out, if_neg hp]
          go_wp2
          go_round
          case rel => exact ⟨k + 1, M - x, 1, by omega, by go_num, by first | rfl | (congr 1; omega), rfl, by rw [eulTo, if_neg hp, HE.out, HM.out], by rw [if_pos (by omega)]⟩
          case measure => simp [intOf]; omega
      · obtain rfl : k = N := by omega
        have HF := Lib.hid HM.out
        go_wp2
        go_ret2
        exact ⟨ret2_i64 HF.out rfl, BX2.out.below⟩
end Go.Proofs.Ytjkddoiacifhpaa
