import Derived.Test.YtjkddoiacifhpaaWd2
namespace Go.Proofs.Ytjkddoiacifhpaa
open Go.RowKit

theorem iFlag_bel {b o c N n c0 : Nat} {A0 : Option Addr} {r : Bool} (f : Int) (w : World) (hN : 0 < N) (h0 : w.cell? ⟨b, o, none⟩ = some (.slice A0 n c0)) (_hn : n ≤ 1048576) (hr : flagB n f = r) :
    Calls Try.prog 133 #[.agg #[.slice (some ⟨b, o, none⟩) N c], .int .i64 f] w fun e w' => e = .returned (.bool r) ∧ Below w.heap.size w w' := by
  have HC0 := Lib.hid (cell_al h0 (.cells #[.slice (some ⟨b, o, none⟩) N c] 51))
  by_cases hf0 : 0 ≤ f
  · have HR := Lib.hid (show decide (f < (n : Int)) = r from by rw [← hr]; unfold flagB; congr 1; simp only [eq_iff_iff]; omega)
    clear h0 hr
    go_enter Try.func133, Try.ntmps133
    go_wp2_with fail
    refine (flags_bel _ hN HC0.out).mono ?_
    rintro e w1 ⟨rfl, bel⟩
    go_wp2
    go_ret
    exact ⟨ret_bool HR.out, (below1 w _).trans (bel.mono (by simp))⟩
  · have HR := Lib.hid (show false = r from by rw [← hr]; unfold flagB; rw [decide_eq_false (by omega)])
    clear h0 hr
    go_enter Try.func133, Try.ntmps133
    go_wp2
    go_ret
    exact ⟨ret_bool HR.out, below1 w _⟩

noncomputable def dfR (xss : List (List Int)) (f : Int) : List Int := if okMan xss then (if flagB (flN xss) f then distL xss (flN xss) f else []) else []
noncomputable def dfC (xss : List (List Int)) (f : Int) : Int := if okMan xss then (if flagB (flN xss) f then 0 else 2) else 1

theorem distL_le {xss : List (List Int)} {n : Nat} {p : Int} : (distL xss n p).length ≤ n := by
  unfold distL
  split
  · rename_i h
    exact Nat.le_of_eq h.choose_spec.1
  · simp
theorem dfR_le (xss : List (List Int)) (f : Int) : (dfR xss f).length ≤ 1048576 := by
  unfold dfR
  split
  · rename_i h
    have := (okMan_iff.1 h).f4
    split
    · exact Nat.le_trans distL_le (by omega)
    · simp
  · simp
set_option maxHeartbeats 1600000 in
theorem sDistancesFrom_any {A : Option Addr} {c N : Nat} {xss : List (List Int)} (k1 : Int) (w : World) (hx : xss.length = N) (ha : RdSS w A xss) (hN : N ≤ 1048576) (hr : ∀ xs ∈ xss, (xs.length : Int) ≤ 1048576) :
    Calls Try.prog 93 #[.agg #[.slice A N c], .int .i64 k1] w (RetS w (dfR xss k1) (dfC xss k1)) := by
  have HX := Lib.hid hx
  have HA := Lib.hid ha
  have HR := Lib.hid hr
  cases ho : okMan xss
  · have h1 : dfR xss k1 = [] := by simp [dfR, ho]
    have h2 : dfC xss k1 = 1 := by simp [dfC, ho]
    rw [h1, h2]
    have HO := Lib.hid ho
    clear hx ha hr ho h1 h2
    go_enter Try.func93, Try.ntmps93
    go_wp2_with fail
    refine (sIs_any _ HX.out (HA.out.al _) hN HR.out).mono ?_
    rintro e w1 ⟨rfl, bel⟩
    rw [HO.out]
    have BEL := Lib.hid bel
    clear bel
    go_wp2
    go_ret2
    exact ⟨none, 0, rfl, World.ownsRow_nil _ _ _ _, (below1 w _).trans (BEL.out.mono (by simp))⟩
  · have hman := okMan_iff.1 ho
    have hsys := hman.sys
    have hn4 := hman.f4
    have hn2 := hman.f2
    have hpos := hman.pos hx
    have hallq : ∀ q : Nat, q < flN xss → (orbL xss (flN xss) q).length = flN xss := fun q hq => hman.all hq
    obtain ⟨b, o, A0, c0, rfl, hc0⟩ := man_row0 hman ha
    obtain ⟨n, hn⟩ : ∃ n, flN xss = n := ⟨_, rfl⟩
    rw [hn] at hc0 hsys hn4 hn2 hallq
    have HC0 := Lib.hid hc0
    have HO := Lib.hid ho
    have HSY := Lib.hid hsys
    have HALLQ := Lib.hid hallq
    have HMAN := Lib.hid hman
    have HFL := Lib.hid hn
    have BX0 := Lib.hid (Bx.start w (.slice (some ⟨b, o, none⟩) N c) 51)
    have hn6 : n ≤ 1048576 := by omega
    cases hf0 : flagB n k1
    · have h1 : dfR xss k1 = [] := by simp [dfR, ho, hn, hf0]
      have h2 : dfC xss k1 = 2 := by simp [dfC, ho, hn, hf0]
      rw [h1, h2]
      have HF0 := Lib.hid hf0
      clear hx ha hr ho hman hn hc0 hsys hallq h1 h2 hf0
      go_enter Try.func93, Try.ntmps93
      go_wp2_with fail
      refine (sIs_any _ HX.out (HA.out.al _) hN HR.out).mono ?_
      rintro e w1 ⟨rfl, bel⟩
      rw [HO.out]
      have BX1 := Lib.hid (BX0.out.go bel)
      have HC1 := Lib.hid (cell_be (cell_al HC0.out _) bel)
      have hbc1 := BX1.out.cell
      clear bel BX0
      go_wp2_with fail
      refine (sFlag_bel _ _ hpos HC1.out hn6 HF0.out).mono ?_
      rintro e w2 ⟨rfl, bel⟩
      have BX2 := Lib.hid (BX1.out.go bel)
      have HC2 := Lib.hid (cell_be HC1.out bel)
      have hbc2 := BX2.out.cell
      clear bel hbc1
      go_wp2
      go_ret2
      exact ⟨none, 0, rfl, World.ownsRow_nil _ _ _ _, BX2.out.below⟩
    · skip
      obtain ⟨p0, rfl, hp0⟩ := flagB_true hf0
      have h1 : dfR xss (p0 : Int) = distL xss n (p0 : Int) := by simp [dfR, ho, hn, hf0]
      have h2 : dfC xss (p0 : Int) = 0 := by simp [dfC, ho, hn, hf0]
      rw [h1, h2]
      have HF0 := Lib.hid hf0
      clear hx ha hr ho hman hn hc0 hsys hallq h1 h2 hf0
      go_enter Try.func93, Try.ntmps93
      go_wp2_with fail
      refine (sIs_any _ HX.out (HA.out.al _) hN HR.out).mono ?_
      rintro e w1 ⟨rfl, bel⟩
      rw [HO.out]
      have BX1 := Lib.hid (BX0.out.go bel)
      have HC1 := Lib.hid (cell_be (cell_al HC0.out _) bel)
      have hbc1 := BX1.out.cell
      clear bel BX0
      go_wp2_with fail
      refine (sFlag_bel _ _ hpos HC1.out hn6 HF0.out).mono ?_
      rintro e w2 ⟨rfl, bel⟩
      have BX2 := Lib.hid (BX1.out.go bel)
      have HC2 := Lib.hid (cell_be HC1.out bel)
      have hbc2 := BX2.out.cell
      clear bel hbc1
      have HAB := Lib.hid (HA.out.keep BX2.out.below)
      go_wp2_with fail
      refine (sdist_any _ HX.out HAB.out hN HSY.out HC2.out hpos hp0 (HALLQ.out _ hp0)).mono ?_
      rintro e w3 ⟨A9, c9, rfl, own, bel⟩
      have OWN := Lib.hid own
      have BX3 := Lib.hid (BX2.out.go bel)
      have HS := Lib.hid BX2.out.below.size
      clear bel hbc2 own
      go_wp2
      go_ret2
      exact ⟨A9, c9, rfl, own_base OWN.out HS.out, BX3.out.below⟩
set_option maxHeartbeats 1600000 in
theorem iDistancesFrom_any {A : Option Addr} {c N : Nat} {xss : List (List Int)} (k1 : Int) (w : World) (hx : xss.length = N) (ha : RdSS w A xss) (hN : N ≤ 1048576) (hr : ∀ xs ∈ xss, (xs.length : Int) ≤ 1048576) :
    Calls Try.prog 69 #[.agg #[.slice A N c], .int .i64 k1] w (RetS w (dfR xss k1) (dfC xss k1)) := by
  have HX := Lib.hid hx
  have HA := Lib.hid ha
  have HR := Lib.hid hr
  cases ho : okMan xss
  · have h1 : dfR xss k1 = [] := by simp [dfR, ho]
    have h2 : dfC xss k1 = 1 := by simp [dfC, ho]
    rw [h1, h2]
    have HO := Lib.hid ho
    clear hx ha hr ho h1 h2
    go_enter Try.func69, Try.ntmps69
    go_wp2_with fail
    refine (iMan_any _ HX.out (HA.out.al _) hN HR.out).mono ?_
    rintro e w1 ⟨rfl, bel⟩
    rw [HO.out]
    have BEL := Lib.hid bel
    clear bel
    go_wp2
    go_ret2
    exact ⟨none, 0, rfl, World.ownsRow_nil _ _ _ _, (below1 w _).trans (BEL.out.mono (by simp))⟩
  · have hman := okMan_iff.1 ho
    have hsys := hman.sys
    have hn4 := hman.f4
    have hn2 := hman.f2
    have hpos := hman.pos hx
    have hallq : ∀ q : Nat, q < flN xss → (orbL xss (flN xss) q).length = flN xss := fun q hq => hman.all hq
    obtain ⟨b, o, A0, c0, rfl, hc0⟩ := man_row0 hman ha
    obtain ⟨n, hn⟩ : ∃ n, flN xss = n := ⟨_, rfl⟩
    rw [hn] at hc0 hsys hn4 hn2 hallq
    have HC0 := Lib.hid hc0
    have HO := Lib.hid ho
    have HSY := Lib.hid hsys
    have HALLQ := Lib.hid hallq
    have HMAN := Lib.hid hman
    have HFL := Lib.hid hn
    have BX0 := Lib.hid (Bx.start w (.slice (some ⟨b, o, none⟩) N c) 51)
    have hn6 : n ≤ 1048576 := by omega
    cases hf0 : flagB n k1
    · have h1 : dfR xss k1 = [] := by simp [dfR, ho, hn, hf0]
      have h2 : dfC xss k1 = 2 := by simp [dfC, ho, hn, hf0]
      rw [h1, h2]
      have HF0 := Lib.hid hf0
      clear hx ha hr ho hman hn hc0 hsys hallq h1 h2 hf0
      go_enter Try.func69, Try.ntmps69
      go_wp2_with fail
      refine (iMan_any _ HX.out (HA.out.al _) hN HR.out).mono ?_
      rintro e w1 ⟨rfl, bel⟩
      rw [HO.out]
      have BX1 := Lib.hid (BX0.out.go bel)
      have HC1 := Lib.hid (cell_be (cell_al HC0.out _) bel)
      have hbc1 := BX1.out.cell
      clear bel BX0
      go_wp2_with fail
      refine (iFlag_bel _ _ hpos HC1.out hn6 HF0.out).mono ?_
      rintro e w2 ⟨rfl, bel⟩
      have BX2 := Lib.hid (BX1.out.go bel)
      have HC2 := Lib.hid (cell_be HC1.out bel)
      have hbc2 := BX2.out.cell
      clear bel hbc1
      go_wp2
      go_ret2
      exact ⟨none, 0, rfl, World.ownsRow_nil _ _ _ _, BX2.out.below⟩
    · skip
      obtain ⟨p0, rfl, hp0⟩ := flagB_true hf0
      have h1 : dfR xss (p0 : Int) = distL xss n (p0 : Int) := by simp [dfR, ho, hn, hf0]
      have h2 : dfC xss (p0 : Int) = 0 := by simp [dfC, ho, hn, hf0]
      rw [h1, h2]
      have HF0 := Lib.hid hf0
      clear hx ha hr ho hman hn hc0 hsys hallq h1 h2 hf0
      go_enter Try.func69, Try.ntmps69
      go_wp2_with fail
      refine (iMan_any _ HX.out (HA.out.al _) hN HR.out).mono ?_
      rintro e w1 ⟨rfl, bel⟩
      rw [HO.out]
      have BX1 := Lib.hid (BX0.out.go bel)
      have HC1 := Lib.hid (cell_be (cell_al HC0.out _) bel)
      have hbc1 := BX1.out.cell
      clear bel BX0
      go_wp2_with fail
      refine (iFlag_bel _ _ hpos HC1.out hn6 HF0.out).mono ?_
      rintro e w2 ⟨rfl, bel⟩
      have BX2 := Lib.hid (BX1.out.go bel)
      have HC2 := Lib.hid (cell_be HC1.out bel)
      have hbc2 := BX2.out.cell
      clear bel hbc1
      have HAB := Lib.hid (HA.out.keep BX2.out.below)
      go_wp2_with fail
      refine (idist_any _ HX.out HAB.out hN HSY.out HC2.out hpos hp0 hn2 (HALLQ.out _ hp0)).mono ?_
      rintro e w3 ⟨A9, c9, rfl, own, bel⟩
      have OWN := Lib.hid own
      have BX3 := Lib.hid (BX2.out.go bel)
      have HS := Lib.hid BX2.out.below.size
      clear bel hbc2 own
      go_wp2
      go_ret2
      exact ⟨A9, c9, rfl, own_base OWN.out HS.out, BX3.out.below⟩
end Go.Proofs.Ytjkddoiacifhpaa
