/- slices.Index; impl.leastFlagOf, FaceAsManiplex, CofaceAsManiplex. -/
import Derived.Test.YtmgoaabeopnopaaL17
import Derived.Test.YtmgoaabeopnopaaL13
namespace Go.Proofs.Ytmgoaabeopnopaa
open Go.RowKit

theorem iidx_any {A : Option Addr} {c n : Nat} {l : List Int} (x : Int) (w : World) (hx : l.length = n) (ha : Rd w A (ints l)) (hn : n ≤ 1048576) :
    Calls Try.prog 166 #[.slice A n c, .int .i64 x] w fun e w' => e = .returned (.int .i64 (idxL l x)) ∧ w = w' := by
  have HX := Lib.hid hx
  have HA := Lib.hid ha
  clear hx ha
  go_enter Try.func166, Try.ntmps166
  go_wp2
  go_loop [8] (fun i => ∃ k : Nat, k ≤ n ∧ i = .int .i64 k ∧ ∀ j : Nat, j < k → l[j]? ≠ some x) (fun i => n - (intOf i).toNat)
  case atStart => exact ⟨0, Nat.zero_le _, rfl, fun j h => absurd h (by omega)⟩
  case round =>
    obtain ⟨k, hk, rfl, hall⟩ := hrel
    have HALL := Lib.hid hall
    clear hall
    by_cases hlt : k < n
    · obtain ⟨b, o, y, rfl, hgy, hcy⟩ := HA.out.int (k := k) (by rw [HX.out]; exact hlt)
      have HG := Lib.hid hgy
      clear hgy
      by_cases he : x = y
      · subst he
        have hb : (x == x) = true := by simp
        have HS := Lib.hid (idxL_some HG.out HALL.out)
        go_wp2
        go_ret
        exact ⟨ret_i64 HS.out.symm, rfl⟩
      · have hb : (x == y) = false := by rw [beq_eq_false_iff_ne]; exact he
        have HS := Lib.hid (show ∀ j : Nat, j < k + 1 → l[j]? ≠ some x from fun j hj => by
          rcases Nat.lt_succ_iff_lt_or_eq.1 hj with h | rfl
          · exact HALL.out j h
          · rw [HG.out]; intro h; injection h with h; exact he h.symm)
        clear he
        go_wp2
        go_round
        case rel => exact ⟨k + 1, by omega, by go_num, HS.out⟩
        case measure => simp [intOf]; omega
    · have HS := Lib.hid (idxL_none (l := l) (x := x) fun j hj => HALL.out j (by rw [HX.out] at hj; omega))
      go_wp2
      go_ret
      exact ⟨ret_i64 HS.out.symm, rfl⟩

theorem fcC_s (xss : List (List Int)) (i y s : Int) : fcC xss i y s = if fcC xss i y (-1) = 0 then (if i = s then 5 else 0) else fcC xss i y (-1) := by
  unfold fcC
  by_cases ho : okMan xss = true
  · simp only [if_pos ho]
    by_cases hf : flagB xss.length i = true
    · have hi : ¬ i = -1 := by simp [flagB] at hf; omega
      simp only [if_pos hf]
      by_cases hx : idxL (facL xss (flN xss) i.toNat) y < 0
      · simp only [if_pos hx]; simp
      · simp only [if_neg hx, if_neg hi, if_true]
    · simp only [if_neg hf]; simp
  · simp only [if_neg ho]; simp
theorem fcF_s (xss : List (List Int)) (i y s : Int) (h : fcC xss i y s = 0) : fcF xss i y (-1) = fcF xss i y s := by
  have h2 := h
  rw [fcC_s] at h2
  have h3 : fcC xss i y (-1) = 0 := by
    by_cases h4 : fcC xss i y (-1) = 0
    · exact h4
    · rw [if_neg h4] at h2; exact h2
  simp [fcF, h, h3]

set_option maxHeartbeats 1600000 in
theorem iLeastFlag_any {A : Option Addr} {c N : Nat} {xss : List (List Int)} (i y : Int) (w : World) (hx : xss.length = N) (ha : RdSS w A xss) (hN : N ≤ 1048576) (hr : ∀ xs ∈ xss, (xs.length : Int) ≤ 1048576) (hcap : N ≤ c) (hc63 : c ≤ 9223372036854775807) :
    Calls Try.prog 127 #[.agg #[.slice A N c], .int .i64 i, .int .i64 y] w fun e w' => e = .returned (.tuple #[.int .i64 (fcF xss i y (-1)), .int .i64 (fcC xss i y (-1))]) ∧ Below w.heap.size w w' := by
  have HX := Lib.hid hx
  have HA := Lib.hid ha
  have HR := Lib.hid hr
  have st0 := (St.start w).addBlk #[.slice A N c] 27
  have S0 := Lib.hid st0
  have hbc := (st0.blk (i := 0) rfl).cell (i := 0) rfl
  clear st0
  by_cases hc : flC xss i = 0
  · have hob : okMan xss = true ∧ flagB xss.length i = true := by
      unfold flC at hc
      split at hc
      · rename_i h1
        split at hc
        · rename_i h2; exact ⟨h1, h2⟩
        · simp at hc
      · simp at hc
    obtain ⟨ho, hf⟩ := hob
    obtain ⟨p, rfl, hp⟩ := flagB_true hf
    obtain ⟨n, hn⟩ : ∃ n, flN xss = n := ⟨_, rfl⟩
    have hn4 := (okMan_iff.1 ho).f4
    rw [hn] at hn4
    have hL : flR xss p = facL xss n p := by simp [flR, ho, hf, hn]
    obtain ⟨x, hxi⟩ : ∃ x, idxL (facL xss n p) y = x := ⟨_, rfl⟩
    have h2 : fcC xss p y (-1) = if x < 0 then 2 else 0 := by
      have : ¬ (p : Int) = -1 := by omega
      simp [fcC, ho, hf, hn, hxi, this]
    have h3 : fcF xss p y (-1) = if x < 0 then 0 else x := by
      by_cases h : x < 0
      · simp [fcF, h2, h]
      · simp [fcF, h2, h, hn, hxi]
    rw [h2, h3]
    have HL := Lib.hid hL
    have HC := Lib.hid hc
    have HXI := Lib.hid hxi
    have HLN := Lib.hid (facL_len xss n p)
    clear hx ha hr ho hf hn h2 h3 hL hc hxi hp
    by_cases hx0 : x < 0
    · rw [if_pos hx0, if_pos hx0]
      go_enter Try.func127, Try.ntmps127
      go_wp2_with fail
      refine (iFaceLabels_any p _ HX.out (HA.out.keep S0.out.below) hN HR.out hcap hc63).mono ?_
      rintro e w1 ⟨A1, c1, rfl, own, bel⟩
      rw [HL.out, HLN.out] at own
      rw [HC.out, HL.out, HLN.out]
      have S1 := Lib.hid (S0.out.go bel)
      have OW := Lib.hid own
      clear bel own hbc
      go_wp2_with fail
      refine (iidx_any _ _ HLN.out (own_rd OW.out) (by omega)).mono ?_
      rintro e w2 ⟨rfl, rfl⟩
      rw [HXI.out]
      go_wp2
      go_ret2
      exact ⟨rfl, S1.out.below⟩
    · rw [if_neg hx0, if_neg hx0]
      go_enter Try.func127, Try.ntmps127
      go_wp2_with fail
      refine (iFaceLabels_any p _ HX.out (HA.out.keep S0.out.below) hN HR.out hcap hc63).mono ?_
      rintro e w1 ⟨A1, c1, rfl, own, bel⟩
      rw [HL.out, HLN.out] at own
      rw [HC.out, HL.out, HLN.out]
      have S1 := Lib.hid (S0.out.go bel)
      have OW := Lib.hid own
      clear bel own hbc
      go_wp2_with fail
      refine (iidx_any _ _ HLN.out (own_rd OW.out) (by omega)).mono ?_
      rintro e w2 ⟨rfl, rfl⟩
      rw [HXI.out]
      go_wp2
      go_ret2
      exact ⟨rfl, S1.out.below⟩
  · obtain ⟨C, hC⟩ : ∃ C, flC xss i = C := ⟨_, rfl⟩
    have h2 : fcC xss i y (-1) = C := by
      rw [← hC]
      unfold flC at hc ⊢
      unfold fcC
      by_cases ho : okMan xss = true
      · by_cases hf : flagB xss.length i = true
        · simp [ho, hf] at hc
        · simp [ho, hf]
      · simp [ho]
    have h3 : fcF xss i y (-1) = 0 := by
      unfold fcF
      rw [h2, ← hC, if_neg hc]
    rw [h2, h3]
    rw [hC] at hc
    have HC := Lib.hid hC
    have hne : (C != 0) = true := by simpa using hc
    clear hx ha hr h2 h3 hC hc
    go_enter Try.func127, Try.ntmps127
    go_wp2_with fail
    refine (iFaceLabels_any i _ HX.out (HA.out.keep S0.out.below) hN HR.out hcap hc63).mono ?_
    rintro e w1 ⟨A1, c1, rfl, own, bel⟩
    rw [HC.out]
    have S1 := Lib.hid (S0.out.go bel)
    clear bel own hbc
    go_wp2
    go_ret2
    exact ⟨rfl, S1.out.below⟩

end Go.Proofs.Ytmgoaabeopnopaa
