import Derived.Test.YtjkddoiacifhpaaWd4
namespace Go.Proofs.Ytjkddoiacifhpaa
open Go.RowKit

theorem diaTo_nn {xss : List (List Int)} {n : Nat} : ∀ k, 0 ≤ diaTo xss n k
  | 0 => by simp [diaTo]
  | k + 1 => by
    have := diaTo_nn (xss := xss) (n := n) k
    rw [diaTo]
    omega
set_option maxHeartbeats 1600000 in
theorem sDiameterOf_any {A : Option Addr} {c N : Nat} {xss : List (List Int)} (w : World) (hx : xss.length = N) (ha : RdSS w A xss) (hN : N ≤ 1048576) (hr : ∀ xs ∈ xss, (xs.length : Int) ≤ 1048576) :
    Calls Try.prog 94 #[.agg #[.slice A N c]] w fun e w' => e = .returned (.tuple #[.int .i64 (diR xss), .int .i64 (manC xss)]) ∧ Below w.heap.size w w' := by
  have HX := Lib.hid hx
  have HA := Lib.hid ha
  have HR := Lib.hid hr
  cases ho : okMan xss
  · have h1 : diR xss = 0 := by simp [diR, ho]
    have h2 : manC xss = 1 := by simp [manC, ho]
    rw [h1, h2]
    have HO := Lib.hid ho
    clear hx ha hr ho h1 h2
    go_enter Try.func94, Try.ntmps94
    go_wp2_with fail
    refine (sIs_any _ HX.out (HA.out.al _) hN HR.out).mono ?_
    rintro e w1 ⟨rfl, bel⟩
    rw [HO.out]
    have BEL := Lib.hid bel
    clear bel
    go_wp2
    go_ret2
    exact ⟨rfl, (below1 w _).trans (BEL.out.mono (by simp))⟩
  · have hman := okMan_iff.1 ho
    have hsys := hman.sys
    have hn4 := hman.f4
    have hn2 := hman.f2
    have hpos := hman.pos hx
    have hallq : ∀ q : Nat, q < flN xss → (orbL xss (flN xss) q).length = flN xss := fun q hq => hman.all hq
    obtain ⟨b, o, A0, c0, rfl, hc0⟩ := man_row0 hman ha
    obtain ⟨n, hn⟩ : ∃ n, flN xss = n := ⟨_, rfl⟩
    rw [hn] at hc0 hsys hn4 hn2 hallq
    have HC0 := Lib.hid hc0
    have HO := Lib.hid ho
    have HSY := Lib.hid hsys
    have HALLQ := Lib.hid hallq
    have HMAN := Lib.hid hman
    have HFL := Lib.hid hn
    have BX0 := Lib.hid (Bx.start w (.slice (some ⟨b, o, none⟩) N c) 51)
    have hn6 : n ≤ 1048576 := by omega
    have h1 : diR xss = diaTo xss n n := by simp [diR, ho, hn]
    have h2 : manC xss = 0 := by simp [manC, ho]
    rw [h1, h2]
    clear hx ha hr ho hman hn hc0 hsys hallq h1 h2
    go_enter Try.func94, Try.ntmps94
    go_wp2_with fail
    refine (sIs_any _ HX.out (HA.out.al _) hN HR.out).mono ?_
    rintro e w1 ⟨rfl, bel⟩
    rw [HO.out]
    have BX1 := Lib.hid (BX0.out.go bel)
    have HC1 := Lib.hid (cell_be (cell_al HC0.out _) bel)
    have hbc1 := BX1.out.cell
    clear bel BX0
    have HAB := Lib.hid (HA.out.keep BX1.out.below)
    have BX0 := BX1
    have HCX := HC1
    clear hbc1 HC1 BX1 HAB
    go_wp2
    go_loopw [4, 5] (fun v i wr => ∃ k : Nat, k ≤ n ∧ i = .int .i64 k ∧ v = .int .i64 (diaTo xss n k) ∧ Bx w wr (.slice (some ⟨b, o, none⟩) N c) 51) (fun _ i _ => n - (intOf i).toNat)
    case atStart => exact ⟨0, Nat.zero_le _, rfl, by simp [diaTo], BX0.out⟩
    case round =>
      obtain ⟨k, hk, rfl, rfl, bx⟩ := hrel
      have BX := Lib.hid bx
      have HCR := Lib.hid (cell_be HC0.out bx.below)
      have hbc := bx.cell
      clear bx BX0 HCX
      go_wp2_with fail
      refine (sFlags_bel wr hpos HCR.out).mono ?_
      rintro e w2 ⟨rfl, bel⟩
      have BX2 := Lib.hid (BX.out.go bel)
      have HC2 := Lib.hid (cell_be HCR.out bel)
      have hbc2 := BX2.out.cell
      clear bel hbc BX HCR
      by_cases hlt : k < n
      · have hdl := distL_len HSY.out hlt (HALLQ.out k hlt)
        have HDL := Lib.hid hdl
        have HIN := Lib.hid (distL_in HSY.out hlt (HALLQ.out k hlt))
        have HA2 := Lib.hid (HA.out.keep BX2.out.below)
        go_wp2_with fail
        refine (sdist_any _ HX.out HA2.out hN HSY.out HC2.out hpos hlt (HALLQ.out k hlt)).mono ?_
        rintro e w3 ⟨A3, c3, rfl, own, bel⟩
        rw [hdl] at own ⊢
        have OWN := Lib.hid own
        have BX3 := Lib.hid (BX2.out.go bel)
        clear own bel hdl hbc2 BX2 HC2
        go_wp2
        go_loop [4, 7] (fun v q => ∃ (g : Nat) (M : Int), g ≤ n ∧ q = .int .i64 g ∧ v = .int .i64 M ∧ M = max (diaTo xss n k) (mxL ((distL xss n k).take g))) (fun _ q => n - (intOf q).toNat)
        case atStart => exact ⟨0, _, Nat.zero_le _, rfl, rfl, by have : 0 ≤ diaTo xss n k := diaTo_nn _; simp [mxL]; omega⟩
        case round =>
          obtain ⟨g, M, hg, rfl, rfl, hM⟩ := hrel
          have HM := Lib.hid hM
          clear hM
          by_cases hgn : g < n
          · obtain ⟨b5, o5, x, rfl, hgx, hcx⟩ := (own_rd OWN.out).int (k := g) (by rw [HDL.out]; exact hgn)
            have HS := Lib.hid (mxL_succ hgx)
            clear hgx
            by_cases hgt : M < x
            · go_wp2
              go_round
              case rel => exact ⟨g + 1, x, by omega, by go_num, rfl, by have := HM.out; rw [HS.out]; omega⟩
              case measure => simp [intOf]; omega
            · go_wp2
              go_round
              case rel => exact ⟨g + 1, M, by omega, by go_num, rfl, by have := HM.out; rw [HS.out]; omega⟩
              case measure => simp [intOf]; omega
          · have HE := Lib.hid (show M = diaTo xss n (k + 1) by rw [HM.out, List.take_of_length_le (by rw [HDL.out]; omega)]; rfl)
            go_wp2
            go_roundw
            case rel => exact ⟨k + 1, by omega, by go_num, by rw [HE.out], BX3.out⟩
            case measure => simp [intOf]; omega
      · obtain rfl : k = n := by omega
        go_wp2
        go_ret2
        exact ⟨rfl, BX2.out.below⟩
set_option maxHeartbeats 1600000 in
theorem iDiameterOf_any {A : Option Addr} {c N : Nat} {xss : List (List Int)} (w : World) (hx : xss.length = N) (ha : RdSS w A xss) (hN : N ≤ 1048576) (hr : ∀ xs ∈ xss, (xs.length : Int) ≤ 1048576) :
    Calls Try.prog 63 #[.agg #[.slice A N c]] w fun e w' => e = .returned (.tuple #[.int .i64 (diR xss), .int .i64 (manC xss)]) ∧ Below w.heap.size w w' := by
  have HX := Lib.hid hx
  have HA := Lib.hid ha
  have HR := Lib.hid hr
  cases ho : okMan xss
  · have h1 : diR xss = 0 := by simp [diR, ho]
    have h2 : manC xss = 1 := by simp [manC, ho]
    rw [h1, h2]
    have HO := Lib.hid ho
    clear hx ha hr ho h1 h2
    go_enter Try.func63, Try.ntmps63
    go_wp2_with fail
    refine (iMan_any _ HX.out (HA.out.al _) hN HR.out).mono ?_
    rintro e w1 ⟨rfl, bel⟩
    rw [HO.out]
    have BEL := Lib.hid bel
    clear bel
    go_wp2
    go_ret2
    exact ⟨rfl, (below1 w _).trans (BEL.out.mono (by simp))⟩
  · have hman := okMan_iff.1 ho
    have hsys := hman.sys
    have hn4 := hman.f4
    have hn2 := hman.f2
    have hpos := hman.pos hx
    have hallq : ∀ q : Nat, q < flN xss → (orbL xss (flN xss) q).length = flN xss := fun q hq => hman.all hq
    obtain ⟨b, o, A0, c0, rfl, hc0⟩ := man_row0 hman ha
    obtain ⟨n, hn⟩ : ∃ n, flN xss = n := ⟨_, rfl⟩
    rw [hn] at hc0 hsys hn4 hn2 hallq
    have HC0 := Lib.hid hc0
    have HO := Lib.hid ho
    have HSY := Lib.hid hsys
    have HALLQ := Lib.hid hallq
    have HMAN := Lib.hid hman
    have HFL := Lib.hid hn
    have BX0 := Lib.hid (Bx.start w (.slice (some ⟨b, o, none⟩) N c) 51)
    have hn6 : n ≤ 1048576 := by omega
    have h1 : diR xss = diaTo xss n n := by simp [diR, ho, hn]
    have h2 : manC xss = 0 := by simp [manC, ho]
    rw [h1, h2]
    clear hx ha hr ho hman hn hc0 hsys hallq h1 h2
    go_enter Try.func63, Try.ntmps63
    go_wp2_with fail
    refine (iMan_any _ HX.out (HA.out.al _) hN HR.out).mono ?_
    rintro e w1 ⟨rfl, bel⟩
    rw [HO.out]
    have BX1 := Lib.hid (BX0.out.go bel)
    have HC1 := Lib.hid (cell_be (cell_al HC0.out _) bel)
    have hbc1 := BX1.out.cell
    clear bel BX0
    have HAB := Lib.hid (HA.out.keep BX1.out.below)
    have BX0 := BX1
    have HCX := HC1
    clear HC1 BX1 HAB
    go_wp2_with fail
    refine (flags_bel _ hpos HCX.out).mono ?_
    rintro e w2 ⟨rfl, bel⟩
    have BX2 := Lib.hid (BX0.out.go bel)
    clear hbc1 bel BX0 HCX
    go_wp2
    go_loopw [4, 11] (fun v i wr => ∃ k : Nat, k ≤ n ∧ i = .int .i64 k ∧ v = .int .i64 (diaTo xss n k) ∧ Bx w wr (.slice (some ⟨b, o, none⟩) N c) 51) (fun _ i _ => n - (intOf i).toNat)
    case atStart => exact ⟨0, Nat.zero_le _, rfl, by simp [diaTo], BX2.out⟩
    case round =>
      obtain ⟨k, hk, rfl, rfl, bx⟩ := hrel
      have BX := Lib.hid bx
      have HCR := Lib.hid (cell_be HC0.out bx.below)
      have HAR := Lib.hid (HA.out.keep bx.below)
      have hbc := bx.cell
      clear bx BX2
      by_cases hlt : k < n
      · have hdl := distL_len HSY.out hlt (HALLQ.out k hlt)
        have HDL := Lib.hid hdl
        have HIN := Lib.hid (distL_in HSY.out hlt (HALLQ.out k hlt))
        go_wp2_with fail
        refine (idist_any _ HX.out HAR.out hN HSY.out HCR.out hpos hlt hn2 (HALLQ.out k hlt)).mono ?_
        rintro e w3 ⟨A3, c3, rfl, own, bel⟩
        rw [hdl] at own ⊢
        have OWN := Lib.hid own
        have BX3 := Lib.hid (BX.out.go bel)
        clear own bel hdl hbc
        go_wp2_with fail
        refine (max_any _ HDL.out (own_rd OWN.out) (by omega) (by omega) (fun x hx => (HIN.out x hx).1)).mono ?_
        rintro e w4 ⟨rfl, rfl⟩
        go_wp2
        go_roundw
        case rel => exact ⟨k + 1, by omega, by go_num, rfl, BX3.out⟩
        case measure => simp [intOf]; omega
      · obtain rfl : k = n := by omega
        go_wp2
        go_ret2
        exact ⟨rfl, BX.out.below⟩
end Go.Proofs.Ytjkddoiacifhpaa
