import Derived.Test.YtjkddoiacifhpaaCoi
namespace Go.Proofs.Ytjkddoiacifhpaa
open Go.RowKit

noncomputable def isoR (xss : List (List Int)) : Bool := if okMan xss then colB xss (flN xss) else false
noncomputable def manC (xss : List (List Int)) : Int := if okMan xss then 0 else 1
noncomputable def colC (xss : List (List Int)) (n : Nat) : Int := if colB xss n then 0 else 5
noncomputable def coR (xss : List (List Int)) : List Int := if okMan xss then colR xss (flN xss) else []
noncomputable def coC (xss : List (List Int)) : Int := if okMan xss then colC xss (flN xss) else 1
noncomputable def diaTo (xss : List (List Int)) (n : Nat) : Nat → Int
  | 0 => 0
  | k + 1 => max (diaTo xss n k) (mxL (distL xss n k))
noncomputable def diR (xss : List (List Int)) : Int := if okMan xss then diaTo xss (flN xss) (flN xss) else 0
theorem retS_col {w w' : World} {xss : List (List Int)} {n : Nat} (h : colB xss n = false) (bel : Below w.heap.size w w') : RetS w (colR xss n) (colC xss n) (.returned (.tuple #[.slice none 0 0, .int .i64 5])) w' := by
  have e1 : colR xss n = [] := by unfold colR; rw [h]; rfl
  have e2 : colC xss n = 5 := by unfold colC; rw [h]; rfl
  rw [e1, e2]
  exact ⟨none, 0, rfl, World.ownsRow_nil _ _ _ _, bel⟩
theorem retS_col' {w w' : World} {xss : List (List Int)} {n c : Nat} {A : Option Addr} (h : colB xss n = true) (own : w'.ownsRow w.heap.size 2 1 (.slice A (colR xss n).length c) (colR xss n).length (ints (colR xss n))) (bel : Below w.heap.size w w') : RetS w (colR xss n) (colC xss n) (.returned (.tuple #[.slice A (colR xss n).length c, .int .i64 0])) w' := by
  have e2 : colC xss n = 0 := by unfold colC; rw [h]; rfl
  rw [e2]
  exact ⟨A, c, rfl, own, bel⟩
theorem colR_le {xss : List (List Int)} {n : Nat} : (colR xss n).length ≤ n := by
  unfold colR
  split
  · unfold colL
    rw [List.length_map]
    exact distL_le
  · simp
theorem coR_le (xss : List (List Int)) : (coR xss).length ≤ 1048576 := by
  unfold coR
  split
  · rename_i h
    have := (okMan_iff.1 h).f4
    exact Nat.le_trans colR_le (by omega)
  · simp

set_option maxHeartbeats 1600000 in
theorem sIsOrientable_any {A : Option Addr} {c N : Nat} {xss : List (List Int)} (w : World) (hx : xss.length = N) (ha : RdSS w A xss) (hN : N ≤ 1048576) (hr : ∀ xs ∈ xss, (xs.length : Int) ≤ 1048576) :
    Calls Try.prog 90 #[.agg #[.slice A N c]] w fun e w' => e = .returned (.tuple #[.bool (isoR xss), .int .i64 (manC xss)]) ∧ Below w.heap.size w w' := by
  have HX := Lib.hid hx
  have HA := Lib.hid ha
  have HR := Lib.hid hr
  cases ho : okMan xss
  · have h1 : isoR xss = false := by simp [isoR, ho]
    have h2 : manC xss = 1 := by simp [manC, ho]
    rw [h1, h2]
    have HO := Lib.hid ho
    clear hx ha hr ho h1 h2
    go_enter Try.func90, Try.ntmps90
    go_wp2_with fail
    refine (sIs_any _ HX.out (HA.out.al _) hN HR.out).mono ?_
    rintro e w1 ⟨rfl, bel⟩
    rw [HO.out]
    have BEL := Lib.hid bel
    clear bel
    go_wp2
    go_ret2
    exact ⟨rfl, (below1 w _).trans (BEL.out.mono (by simp))⟩
  · have hman := okMan_iff.1 ho
    have hsys := hman.sys
    have hn4 := hman.f4
    have hn2 := hman.f2
    have hpos := hman.pos hx
    have hallq : ∀ q : Nat, q < flN xss → (orbL xss (flN xss) q).length = flN xss := fun q hq => hman.all hq
    obtain ⟨b, o, A0, c0, rfl, hc0⟩ := man_row0 hman ha
    obtain ⟨n, hn⟩ : ∃ n, flN xss = n := ⟨_, rfl⟩
    rw [hn] at hc0 hsys hn4 hn2 hallq
    have HC0 := Lib.hid hc0
    have HO := Lib.hid ho
    have HSY := Lib.hid hsys
    have HALLQ := Lib.hid hallq
    have HMAN := Lib.hid hman
    have HFL := Lib.hid hn
    have BX0 := Lib.hid (Bx.start w (.slice (some ⟨b, o, none⟩) N c) 51)
    have hn6 : n ≤ 1048576 := by omega
    have h1 : isoR xss = colB xss n := by simp [isoR, ho, hn]
    have h2 : manC xss = 0 := by simp [manC, ho]
    rw [h1, h2]
    clear hx ha hr ho hman hn hc0 hsys hallq h1 h2
    go_enter Try.func90, Try.ntmps90
    go_wp2_with fail
    refine (sIs_any _ HX.out (HA.out.al _) hN HR.out).mono ?_
    rintro e w1 ⟨rfl, bel⟩
    rw [HO.out]
    have BX1 := Lib.hid (BX0.out.go bel)
    have HC1 := Lib.hid (cell_be (cell_al HC0.out _) bel)
    have hbc1 := BX1.out.cell
    clear bel BX0
    have HAB := Lib.hid (HA.out.keep BX1.out.below)
    go_wp2_with fail
    refine (scol_any _ HX.out HAB.out hN HSY.out HC1.out hpos hn2 (HALLQ.out 0 (by omega))).mono ?_
    rintro e w2 ⟨A9, c9, rfl, own, bel⟩
    have BX2 := Lib.hid (BX1.out.go bel)
    have OWN := Lib.hid (own_base own BX1.out.below.size)
    clear bel own hbc1
    go_wp2
    go_ret2
    exact ⟨rfl, BX2.out.below⟩
set_option maxHeartbeats 1600000 in
theorem sColouringOf_any {A : Option Addr} {c N : Nat} {xss : List (List Int)} (w : World) (hx : xss.length = N) (ha : RdSS w A xss) (hN : N ≤ 1048576) (hr : ∀ xs ∈ xss, (xs.length : Int) ≤ 1048576) :
    Calls Try.prog 73 #[.agg #[.slice A N c]] w (RetS w (coR xss) (coC xss)) := by
  have HX := Lib.hid hx
  have HA := Lib.hid ha
  have HR := Lib.hid hr
  cases ho : okMan xss
  · have h1 : coR xss = [] := by simp [coR, ho]
    have h2 : coC xss = 1 := by simp [coC, ho]
    rw [h1, h2]
    have HO := Lib.hid ho
    clear hx ha hr ho h1 h2
    go_enter Try.func73, Try.ntmps73
    go_wp2_with fail
    refine (sIs_any _ HX.out (HA.out.al _) hN HR.out).mono ?_
    rintro e w1 ⟨rfl, bel⟩
    rw [HO.out]
    have BEL := Lib.hid bel
    clear bel
    go_wp2
    go_ret2
    exact ⟨none, 0, rfl, World.ownsRow_nil _ _ _ _, (below1 w _).trans (BEL.out.mono (by simp))⟩
  · have hman := okMan_iff.1 ho
    have hsys := hman.sys
    have hn4 := hman.f4
    have hn2 := hman.f2
    have hpos := hman.pos hx
    have hallq : ∀ q : Nat, q < flN xss → (orbL xss (flN xss) q).length = flN xss := fun q hq => hman.all hq
    obtain ⟨b, o, A0, c0, rfl, hc0⟩ := man_row0 hman ha
    obtain ⟨n, hn⟩ : ∃ n, flN xss = n := ⟨_, rfl⟩
    rw [hn] at hc0 hsys hn4 hn2 hallq
    have HC0 := Lib.hid hc0
    have HO := Lib.hid ho
    have HSY := Lib.hid hsys
    have HALLQ := Lib.hid hallq
    have HMAN := Lib.hid hman
    have HFL := Lib.hid hn
    have BX0 := Lib.hid (Bx.start w (.slice (some ⟨b, o, none⟩) N c) 51)
    have hn6 : n ≤ 1048576 := by omega
    have h1 : coR xss = colR xss n := by simp [coR, ho, hn]
    have h2 : coC xss = colC xss n := by simp [coC, ho, hn]
    rw [h1, h2]
    clear hx ha hr ho hman hn hc0 hsys hallq h1 h2
    go_enter Try.func73, Try.ntmps73
    go_wp2_with fail
    refine (sIs_any _ HX.out (HA.out.al _) hN HR.out).mono ?_
    rintro e w1 ⟨rfl, bel⟩
    rw [HO.out]
    have BX1 := Lib.hid (BX0.out.go bel)
    have HC1 := Lib.hid (cell_be (cell_al HC0.out _) bel)
    have hbc1 := BX1.out.cell
    clear bel BX0
    have HAB := Lib.hid (HA.out.keep BX1.out.below)
    go_wp2_with fail
    refine (scol_any _ HX.out HAB.out hN HSY.out HC1.out hpos hn2 (HALLQ.out 0 (by omega))).mono ?_
    rintro e w2 ⟨A9, c9, rfl, own, bel⟩
    have BX2 := Lib.hid (BX1.out.go bel)
    have OWN := Lib.hid (own_base own BX1.out.below.size)
    clear bel own hbc1
    cases hb : colB xss n
    · have HB := Lib.hid hb
      clear hb
      go_wp2
      go_ret2
      exact retS_col HB.out BX2.out.below
    · have HB := Lib.hid hb
      clear hb
      go_wp2
      go_ret2
      exact retS_col' HB.out OWN.out BX2.out.below
set_option maxHeartbeats 1600000 in
theorem iIsOrientable_any {A : Option Addr} {c N : Nat} {xss : List (List Int)} (w : World) (hx : xss.length = N) (ha : RdSS w A xss) (hN : N ≤ 1048576) (hr : ∀ xs ∈ xss, (xs.length : Int) ≤ 1048576) :
    Calls Try.prog 62 #[.agg #[.slice A N c]] w fun e w' => e = .returned (.tuple #[.bool (isoR xss), .int .i64 (manC xss)]) ∧ Below w.heap.size w w' := by
  have HX := Lib.hid hx
  have HA := Lib.hid ha
  have HR := Lib.hid hr
  cases ho : okMan xss
  · have h1 : isoR xss = false := by simp [isoR, ho]
    have h2 : manC xss = 1 := by simp [manC, ho]
    rw [h1, h2]
    have HO := Lib.hid ho
    clear hx ha hr ho h1 h2
    go_enter Try.func62, Try.ntmps62
    go_wp2_with fail
    refine (iMan_any _ HX.out (HA.out.al _) hN HR.out).mono ?_
    rintro e w1 ⟨rfl, bel⟩
    rw [HO.out]
    have BEL := Lib.hid bel
    clear bel
    go_wp2
    go_ret2
    exact ⟨rfl, (below1 w _).trans (BEL.out.mono (by simp))⟩
  · have hman := okMan_iff.1 ho
    have hsys := hman.sys
    have hn4 := hman.f4
    have hn2 := hman.f2
    have hpos := hman.pos hx
    have hallq : ∀ q : Nat, q < flN xss → (orbL xss (flN xss) q).length = flN xss := fun q hq => hman.all hq
    obtain ⟨b, o, A0, c0, rfl, hc0⟩ := man_row0 hman ha
    obtain ⟨n, hn⟩ : ∃ n, flN xss = n := ⟨_, rfl⟩
    rw [hn] at hc0 hsys hn4 hn2 hallq
    have HC0 := Lib.hid hc0
    have HO := Lib.hid ho
    have HSY := Lib.hid hsys
    have HALLQ := Lib.hid hallq
    have HMAN := Lib.hid hman
    have HFL := Lib.hid hn
    have BX0 := Lib.hid (Bx.start w (.slice (some ⟨b, o, none⟩) N c) 51)
    have hn6 : n ≤ 1048576 := by omega
    have h1 : isoR xss = colB xss n := by simp [isoR, ho, hn]
    have h2 : manC xss = 0 := by simp [manC, ho]
    rw [h1, h2]
    clear hx ha hr ho hman hn hc0 hsys hallq h1 h2
    go_enter Try.func62, Try.ntmps62
    go_wp2_with fail
    refine (iMan_any _ HX.out (HA.out.al _) hN HR.out).mono ?_
    rintro e w1 ⟨rfl, bel⟩
    rw [HO.out]
    have BX1 := Lib.hid (BX0.out.go bel)
    have HC1 := Lib.hid (cell_be (cell_al HC0.out _) bel)
    have hbc1 := BX1.out.cell
    clear bel BX0
    have HAB := Lib.hid (HA.out.keep BX1.out.below)
    go_wp2_with fail
    refine (icol_any _ HX.out HAB.out hN HSY.out HC1.out hpos hn2 (HALLQ.out 0 (by omega))).mono ?_
    rintro e w2 ⟨A9, c9, rfl, own, bel⟩
    have BX2 := Lib.hid (BX1.out.go bel)
    have OWN := Lib.hid (own_base own BX1.out.below.size)
    clear bel own hbc1
    go_wp2
    go_ret2
    exact ⟨rfl, BX2.out.below⟩
set_option maxHeartbeats 1600000 in
theorem iColouringOf_any {A : Option Addr} {c N : Nat} {xss : List (List Int)} (w : World) (hx : xss.length = N) (ha : RdSS w A xss) (hN : N ≤ 1048576) (hr : ∀ xs ∈ xss, (xs.length : Int) ≤ 1048576) :
    Calls Try.prog 72 #[.agg #[.slice A N c]] w (RetS w (coR xss) (coC xss)) := by
  have HX := Lib.hid hx
  have HA := Lib.hid ha
  have HR := Lib.hid hr
  cases ho : okMan xss
  · have h1 : coR xss = [] := by simp [coR, ho]
    have h2 : coC xss = 1 := by simp [coC, ho]
    rw [h1, h2]
    have HO := Lib.hid ho
    clear hx ha hr ho h1 h2
    go_enter Try.func72, Try.ntmps72
    go_wp2_with fail
    refine (iMan_any _ HX.out (HA.out.al _) hN HR.out).mono ?_
    rintro e w1 ⟨rfl, bel⟩
    rw [HO.out]
    have BEL := Lib.hid bel
    clear bel
    go_wp2
    go_ret2
    exact ⟨none, 0, rfl, World.ownsRow_nil _ _ _ _, (below1 w _).trans (BEL.out.mono (by simp))⟩
  · have hman := okMan_iff.1 ho
    have hsys := hman.sys
    have hn4 := hman.f4
    have hn2 := hman.f2
    have hpos := hman.pos hx
    have hallq : ∀ q : Nat, q < flN xss → (orbL xss (flN xss) q).length = flN xss := fun q hq => hman.all hq
    obtain ⟨b, o, A0, c0, rfl, hc0⟩ := man_row0 hman ha
    obtain ⟨n, hn⟩ : ∃ n, flN xss = n := ⟨_, rfl⟩
    rw [hn] at hc0 hsys hn4 hn2 hallq
    have HC0 := Lib.hid hc0
    have HO := Lib.hid ho
    have HSY := Lib.hid hsys
    have HALLQ := Lib.hid hallq
    have HMAN := Lib.hid hman
    have HFL := Lib.hid hn
    have BX0 := Lib.hid (Bx.start w (.slice (some ⟨b, o, none⟩) N c) 51)
    have hn6 : n ≤ 1048576 := by omega
    have h1 : coR xss = colR xss n := by simp [coR, ho, hn]
    have h2 : coC xss = colC xss n := by simp [coC, ho, hn]
    rw [h1, h2]
    clear hx ha hr ho hman hn hc0 hsys hallq h1 h2
    go_enter Try.func72, Try.ntmps72
    go_wp2_with fail
    refine (iMan_any _ HX.out (HA.out.al _) hN HR.out).mono ?_
    rintro e w1 ⟨rfl, bel⟩
    rw [HO.out]
    have BX1 := Lib.hid (BX0.out.go bel)
    have HC1 := Lib.hid (cell_be (cell_al HC0.out _) bel)
    have hbc1 := BX1.out.cell
    clear bel BX0
    have HAB := Lib.hid (HA.out.keep BX1.out.below)
    go_wp2_with fail
    refine (icol_any _ HX.out HAB.out hN HSY.out HC1.out hpos hn2 (HALLQ.out 0 (by omega))).mono ?_
    rintro e w2 ⟨A9, c9, rfl, own, bel⟩
    have BX2 := Lib.hid (BX1.out.go bel)
    have OWN := Lib.hid (own_base own BX1.out.below.size)
    clear bel own hbc1
    cases hb : colB xss n
    · have HB := Lib.hid hb
      clear hb
      go_wp2
      go_ret2
      exact retS_col HB.out BX2.out.below
    · have HB := Lib.hid hb
      clear hb
      go_wp2
      go_ret2
      exact retS_col' HB.out OWN.out BX2.out.below
end Go.Proofs.Ytjkddoiacifhpaa
