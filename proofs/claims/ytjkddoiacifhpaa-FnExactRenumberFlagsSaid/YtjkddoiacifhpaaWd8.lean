import Derived.Test.YtjkddoiacifhpaaFrm
namespace Go.Proofs.Ytjkddoiacifhpaa
open Go.RowKit

noncomputable def ffR (xss : List (List Int)) (f : Int) : List (List Int) := if okMan xss then (if flagB (flN xss) f then frmL xss (flN xss) f.toNat else []) else []
noncomputable def ffC (xss : List (List Int)) (f : Int) : Int := if okMan xss then (if flagB (flN xss) f then 0 else 2) else 1
noncomputable def rnR (xss : List (List Int)) (p : List Int) : List (List Int) := if okMan xss then (if p.length = flN xss ∧ okP p = true then renM xss p else []) else []
noncomputable def rnC (xss : List (List Int)) (p : List Int) : Int := if okMan xss then (if p.length = flN xss ∧ okP p = true then 0 else 2) else 1
theorem man_small {xss : List (List Int)} {p : List Int} (h : IsMan xss) (hp : p.length = flN xss) : (renM xss p).length ≤ 1048576 ∧ ∀ xs ∈ renM xss p, (xs.length : Int) ≤ 1048576 := by
  have h1 := h.r5
  have h2 := h.f4
  refine ⟨by rw [renM_length]; omega, fun xs hx => ?_⟩
  rw [renM_row hp xs hx]
  omega
theorem ffR_le (xss : List (List Int)) (f : Int) : (ffR xss f).length ≤ 1048576 ∧ ∀ xs ∈ ffR xss f, (xs.length : Int) ≤ 1048576 := by
  unfold ffR
  split
  · rename_i h
    split
    · rename_i hf
      obtain ⟨p, rfl, hp⟩ := flagB_true hf
      have hm := okMan_iff.1 h
      exact man_small hm (inv_orb_len (hm.all hp))
    · simp
  · simp
theorem rnR_le (xss : List (List Int)) (p : List Int) : (rnR xss p).length ≤ 1048576 ∧ ∀ xs ∈ rnR xss p, (xs.length : Int) ≤ 1048576 := by
  unfold rnR
  split
  · rename_i h
    split
    · rename_i hp
      exact man_small (okMan_iff.1 h) hp.1
    · simp
  · simp

set_option maxHeartbeats 1600000 in
theorem sFormFrom_any {A : Option Addr} {c N : Nat} {xss : List (List Int)} (k1 : Int) (w : World) (hx : xss.length = N) (ha : RdSS w A xss) (hN : N ≤ 1048576) (hr : ∀ xs ∈ xss, (xs.length : Int) ≤ 1048576) :
    Calls Try.prog 95 #[.agg #[.slice A N c], .int .i64 k1] w (RetMC w (ffR xss k1) (ffC xss k1)) := by
  have HX := Lib.hid hx
  have HA := Lib.hid ha
  have HR := Lib.hid hr
  cases ho : okMan xss
  · have h1 : ffR xss k1 = [] := by simp [ffR, ho]
    have h2 : ffC xss k1 = 1 := by simp [ffC, ho]
    have BX0 := Lib.hid (Bx2.start w (.slice A N c))
    rw [h1, h2]
    have HO := Lib.hid ho
    clear hx ha hr ho h1 h2
    go_enter Try.func95, Try.ntmps95
    go_wp2_with fail
    refine (sIs_any _ HX.out ((HA.out.al _).al _) hN HR.out).mono ?_
    rintro e w1 ⟨rfl, bel⟩
    rw [HO.out]
    have BX1 := Lib.hid (BX0.out.go bel)
    clear bel
    have hc1 := BX1.out.cell1
    have hf1 := BX1.out.free1
    have hbz := BX1.out.size
    go_wp2
    exact bodyPost_ret (v := .tuple #[.agg #[.slice none 0 0], .int .i64 1]) (by simp [results, Try.results95, go_sem, hc1]) rfl (retMC_no BX1.out 1 _)
  · have hman := okMan_iff.1 ho
    have hsys := hman.sys
    have hn4 := hman.f4
    have hn2 := hman.f2
    have hpos := hman.pos hx
    have hallq : ∀ q : Nat, q < flN xss → (orbL xss (flN xss) q).length = flN xss := fun q hq => hman.all hq
    obtain ⟨b, o, A0, c0, rfl, hc0⟩ := man_row0 hman ha
    obtain ⟨n, hn⟩ : ∃ n, flN xss = n := ⟨_, rfl⟩
    rw [hn] at hc0 hsys hn4 hn2 hallq
    have HC0 := Lib.hid hc0
    have HO := Lib.hid ho
    have HSY := Lib.hid hsys
    have HALLQ := Lib.hid hallq
    have HMAN := Lib.hid hman
    have BX0 := Lib.hid (Bx2.start w (.slice (some ⟨b, o, none⟩) N c))
    have hn6 : n ≤ 1048576 := by omega
    cases hf0 : flagB n k1
    · have h1 : ffR xss k1 = [] := by simp [ffR, ho, hn, hf0]
      have h2 : ffC xss k1 = 2 := by simp [ffC, ho, hn, hf0]
      rw [h1, h2]
      have HF0 := Lib.hid hf0
      clear hx ha hr ho hman hn hc0 hsys hallq h1 h2 hf0
      go_enter Try.func95, Try.ntmps95
      go_wp2_with fail
      refine (sIs_any _ HX.out ((HA.out.al _).al _) hN HR.out).mono ?_
      rintro e w1 ⟨rfl, bel⟩
      rw [HO.out]
      have BX1 := Lib.hid (BX0.out.go bel)
      clear bel
      have HC1 := Lib.hid (cell_be HC0.out BX1.out.below)
      have hbc := BX1.out.cell
      go_wp2_with fail
      refine (sFlag_bel _ _ hpos HC1.out hn6 HF0.out).mono ?_
      rintro e w2 ⟨rfl, bel⟩
      have BX2 := Lib.hid (BX1.out.go bel)
      clear bel hbc
      have hc1 := BX2.out.cell1
      have hf1 := BX2.out.free1
      have hbz := BX2.out.size
      go_wp2
      exact bodyPost_ret (v := .tuple #[.agg #[.slice none 0 0], .int .i64 2]) (by simp [results, Try.results95, go_sem, hc1]) rfl (retMC_no BX2.out 2 _)
    · obtain ⟨p0, rfl, hp0⟩ := flagB_true hf0
      have h1 : ffR xss (p0 : Int) = frmL xss n p0 := by simp [ffR, ho, hn, hf0]
      have h2 : ffC xss (p0 : Int) = 0 := by simp [ffC, ho, hn, hf0]
      rw [h1, h2]
      have HF0 := Lib.hid hf0
      clear hx ha hr ho hman hn hc0 hsys hallq h1 h2 hf0
      go_enter Try.func95, Try.ntmps95
      go_wp2_with fail
      refine (sIs_any _ HX.out ((HA.out.al _).al _) hN HR.out).mono ?_
      rintro e w1 ⟨rfl, bel⟩
      rw [HO.out]
      have BX1 := Lib.hid (BX0.out.go bel)
      clear bel
      have HC1 := Lib.hid (cell_be HC0.out BX1.out.below)
      have hbc := BX1.out.cell
      go_wp2_with fail
      refine (sFlag_bel _ _ hpos HC1.out hn6 HF0.out).mono ?_
      rintro e w2 ⟨rfl, bel⟩
      have BX2 := Lib.hid (BX1.out.go bel)
      clear bel hbc
      have HC2 := Lib.hid (cell_be HC0.out BX2.out.below)
      have hbc := BX2.out.cell
      have HAB := Lib.hid (HA.out.keep BX2.out.below)
      go_wp2_with fail
      refine (sform_any _ HX.out HAB.out hN HSY.out hp0 (HALLQ.out _ hp0)).mono ?_
      rintro e w9 ⟨A9, c9, rfl, own, bel⟩
      have OWN := Lib.hid own
      have BX9 := Lib.hid (BX2.out.go bel)
      have hsz := BX2.out.size
      have hc1 := BX9.out.cell1
      have hf1 := BX9.out.free1
      have hbz := BX9.out.size
      clear own bel hbc
      go_wp2
      exact bodyPost_ret (v := .tuple #[.agg #[.slice A9 _ c9], .int .i64 0]) (by simp [results, Try.results95, go_sem, hc1]) rfl (retMC_yes BX9.out OWN.out hsz (Nat.le_refl _) _ 0)
set_option maxHeartbeats 1600000 in
theorem sRenumberFlags_any {A : Option Addr} {c N : Nat} {xss : List (List Int)} {B1 : Option Addr} {d1 m1 : Nat} {y1 : List Int} (w : World) (hx : xss.length = N) (ha : RdSS w A xss) (hN : N ≤ 1048576) (hr : ∀ xs ∈ xss, (xs.length : Int) ≤ 1048576) (hx1 : y1.length = m1) (ha1 : Rd w B1 (ints y1)) (hm1 : m1 ≤ 1048576) :
    Calls Try.prog 97 #[.agg #[.slice A N c], .slice B1 m1 d1] w (RetMC w (rnR xss y1) (rnC xss y1)) := by
  have HX := Lib.hid hx
  have HA := Lib.hid ha
  have HR := Lib.hid hr
  have HX1 := Lib.hid hx1
  have HA1 := Lib.hid ha1
  clear ha1
  cases ho : okMan xss
  · have h1 : rnR xss y1 = [] := by simp [rnR, ho]
    have h2 : rnC xss y1 = 1 := by simp [rnC, ho]
    have BX0 := Lib.hid (Bx2.start w (.slice A N c))
    rw [h1, h2]
    have HO := Lib.hid ho
    clear hx ha hr ho h1 h2 hx1
    go_enter Try.func97, Try.ntmps97
    go_wp2_with fail
    refine (sIs_any _ HX.out ((HA.out.al _).al _) hN HR.out).mono ?_
    rintro e w1 ⟨rfl, bel⟩
    rw [HO.out]
    have BX1 := Lib.hid (BX0.out.go bel)
    clear bel
    have hc1 := BX1.out.cell1
    have hf1 := BX1.out.free1
    have hbz := BX1.out.size
    go_wp2
    exact bodyPost_ret (v := .tuple #[.agg #[.slice none 0 0], .int .i64 1]) (by simp [results, Try.results97, go_sem, hc1]) rfl (retMC_no BX1.out 1 _)
  · have hman := okMan_iff.1 ho
    have hsys := hman.sys
    have hn4 := hman.f4
    have hn2 := hman.f2
    have hpos := hman.pos hx
    have hallq : ∀ q : Nat, q < flN xss → (orbL xss (flN xss) q).length = flN xss := fun q hq => hman.all hq
    obtain ⟨b, o, A0, c0, rfl, hc0⟩ := man_row0 hman ha
    obtain ⟨n, hn⟩ : ∃ n, flN xss = n := ⟨_, rfl⟩
    rw [hn] at hc0 hsys hn4 hn2 hallq
    have HC0 := Lib.hid hc0
    have HO := Lib.hid ho
    have HSY := Lib.hid hsys
    have HALLQ := Lib.hid hallq
    have HMAN := Lib.hid hman
    have BX0 := Lib.hid (Bx2.start w (.slice (some ⟨b, o, none⟩) N c))
    have hn6 : n ≤ 1048576 := by omega
    by_cases hl : m1 = n
    · subst hl
      have hne : ((m1 : Int) != (m1 : Int)) = false := by simp
      cases hp : okP y1
      · have h1 : rnR xss y1 = [] := by simp [rnR, ho, hn, hx1, hp]
        have h2 : rnC xss y1 = 2 := by simp [rnC, ho, hn, hx1, hp]
        rw [h1, h2]
        have HP := Lib.hid hp
        clear hx ha hr ho hman hn hc0 hsys hallq h1 h2 hx1 hp
        go_enter Try.func97, Try.ntmps97
        go_wp2_with fail
        refine (sIs_any _ HX.out ((HA.out.al _).al _) hN HR.out).mono ?_
        rintro e w1 ⟨rfl, bel⟩
        rw [HO.out]
        have BX1 := Lib.hid (BX0.out.go bel)
        clear bel
        have HC1 := Lib.hid (cell_be HC0.out BX1.out.below)
        have hbc := BX1.out.cell
        go_wp2_with fail
        refine (sFlags_bel _ hpos HC1.out).mono ?_
        rintro e w2 ⟨rfl, bel⟩
        have BX2 := Lib.hid (BX1.out.go bel)
        clear bel hbc
        have hbc := BX2.out.cell
        go_wp2_with fail
        refine (perm_any _ HX1.out (HA1.out.keep BX2.out.below) hm1).mono ?_
        rintro e w3 ⟨rfl, bel⟩
        rw [HP.out]
        have BX3 := Lib.hid (BX2.out.go bel)
        clear bel hbc
        have hc1 := BX3.out.cell1
        have hf1 := BX3.out.free1
        have hbz := BX3.out.size
        go_wp2
        exact bodyPost_ret (v := .tuple #[.agg #[.slice none 0 0], .int .i64 2]) (by simp [results, Try.results97, go_sem, hc1]) rfl (retMC_no BX3.out 2 _)
      · have h1 : rnR xss y1 = renM xss y1 := by simp [rnR, ho, hn, hx1, hp]
        have h2 : rnC xss y1 = 0 := by simp [rnC, ho, hn, hx1, hp]
        rw [h1, h2]
        have HP := Lib.hid hp
        clear hx ha hr ho hman hn hc0 hsys hallq h1 h2 hx1 hp
        go_enter Try.func97, Try.ntmps97
        go_wp2_with fail
        refine (sIs_any _ HX.out ((HA.out.al _).al _) hN HR.out).mono ?_
        rintro e w1 ⟨rfl, bel⟩
        rw [HO.out]
        have BX1 := Lib.hid (BX0.out.go bel)
        clear bel
        have HC1 := Lib.hid (cell_be HC0.out BX1.out.below)
        have hbc := BX1.out.cell
        go_wp2_with fail
        refine (sFlags_bel _ hpos HC1.out).mono ?_
        rintro e w2 ⟨rfl, bel⟩
        have BX2 := Lib.hid (BX1.out.go bel)
        clear bel hbc
        have hbc := BX2.out.cell
        go_wp2_with fail
        refine (perm_any _ HX1.out (HA1.out.keep BX2.out.below) hm1).mono ?_
        rintro e w3 ⟨rfl, bel⟩
        rw [HP.out]
        have BX3 := Lib.hid (BX2.out.go bel)
        clear bel hbc
        have HC3 := Lib.hid (cell_be HC0.out BX3.out.below)
        have hbc := BX3.out.cell
        have HAB := Lib.hid (HA.out.keep BX3.out.below)
        have HAB1 := Lib.hid (HA1.out.keep BX3.out.below)
        go_wp2_with fail
        refine (sren_any _ HX.out HAB.out HSY.out HX1.out HAB1.out HP.out).mono ?_
        rintro e w9 ⟨A9, c9, rfl, own, bel⟩
        have OWN := Lib.hid own
        have BX9 := Lib.hid (BX3.out.go bel)
        have hsz := BX3.out.size
        have hc1 := BX9.out.cell1
        have hf1 := BX9.out.free1
        have hbz := BX9.out.size
        clear own bel hbc
        go_wp2
        exact bodyPost_ret (v := .tuple #[.agg #[.slice A9 _ c9], .int .i64 0]) (by simp [results, Try.results97, go_sem, hc1]) rfl (retMC_yes BX9.out OWN.out hsz (Nat.le_refl _) _ 0)
    · have hne : ((m1 : Int) != (n : Int)) = true := by rw [bne_iff_ne]; omega
      have hl2 : ¬ m1 = flN xss := by omega
      have h1 : rnR xss y1 = [] := by simp [rnR, ho, hx1, hl2]
      have h2 : rnC xss y1 = 2 := by simp [rnC, ho, hx1, hl2]
      rw [h1, h2]
      clear hx ha hr ho hman hn hc0 hsys hallq h1 h2 hx1 hl hl2
      go_enter Try.func97, Try.ntmps97
      go_wp2_with fail
      refine (sIs_any _ HX.out ((HA.out.al _).al _) hN HR.out).mono ?_
      rintro e w1 ⟨rfl, bel⟩
      rw [HO.out]
      have BX1 := Lib.hid (BX0.out.go bel)
      clear bel
      have HC1 := Lib.hid (cell_be HC0.out BX1.out.below)
      have hbc := BX1.out.cell
      go_wp2_with fail
      refine (sFlags_bel _ hpos HC1.out).mono ?_
      rintro e w2 ⟨rfl, bel⟩
      have BX2 := Lib.hid (BX1.out.go bel)
      clear bel hbc
      have hc1 := BX2.out.cell1
      have hf1 := BX2.out.free1
      have hbz := BX2.out.size
      go_wp2
      exact bodyPost_ret (v := .tuple #[.agg #[.slice none 0 0], .int .i64 2]) (by simp [results, Try.results97, go_sem, hc1]) rfl (retMC_no BX2.out 2 _)
set_option maxHeartbeats 1600000 in
theorem iFormFrom_any {A : Option Addr} {c N : Nat} {xss : List (List Int)} (k1 : Int) (w : World) (hx : xss.length = N) (ha : RdSS w A xss) (hN : N ≤ 1048576) (hr : ∀ xs ∈ xss, (xs.length : Int) ≤ 1048576) :
    Calls Try.prog 60 #[.agg #[.slice A N c], .int .i64 k1] w (RetMC w (ffR xss k1) (ffC xss k1)) := by
  have HX := Lib.hid hx
  have HA := Lib.hid ha
  have HR := Lib.hid hr
  cases ho : okMan xss
  · have h1 : ffR xss k1 = [] := by simp [ffR, ho]
    have h2 : ffC xss k1 = 1 := by simp [ffC, ho]
    have BX0 := Lib.hid (Bx2.start w (.slice A N c))
    rw [h1, h2]
    have HO := Lib.hid ho
    clear hx ha hr ho h1 h2
    go_enter Try.func60, Try.ntmps60
    go_wp2_with fail
    refine (iMan_any _ HX.out ((HA.out.al _).al _) hN HR.out).mono ?_
    rintro e w1 ⟨rfl, bel⟩
    rw [HO.out]
    have BX1 := Lib.hid (BX0.out.go bel)
    clear bel
    have hc1 := BX1.out.cell1
    have hf1 := BX1.out.free1
    have hbz := BX1.out.size
    go_wp2
    exact bodyPost_ret (v := .tuple #[.agg #[.slice none 0 0], .int .i64 1]) (by simp [results, Try.results60, go_sem, hc1]) rfl (retMC_no BX1.out 1 _)
  · have hman := okMan_iff.1 ho
    have hsys := hman.sys
    have hn4 := hman.f4
    have hn2 := hman.f2
    have hpos := hman.pos hx
    have hallq : ∀ q : Nat, q < flN xss → (orbL xss (flN xss) q).length = flN xss := fun q hq => hman.all hq
    obtain ⟨b, o, A0, c0, rfl, hc0⟩ := man_row0 hman ha
    obtain ⟨n, hn⟩ : ∃ n, flN xss = n := ⟨_, rfl⟩
    rw [hn] at hc0 hsys hn4 hn2 hallq
    have HC0 := Lib.hid hc0
    have HO := Lib.hid ho
    have HSY := Lib.hid hsys
    have HALLQ := Lib.hid hallq
    have HMAN := Lib.hid hman
    have BX0 := Lib.hid (Bx2.start w (.slice (some ⟨b, o, none⟩) N c))
    have hn6 : n ≤ 1048576 := by omega
    cases hf0 : flagB n k1
    · have h1 : ffR xss k1 = [] := by simp [ffR, ho, hn, hf0]
      have h2 : ffC xss k1 = 2 := by simp [ffC, ho, hn, hf0]
      rw [h1, h2]
      have HF0 := Lib.hid hf0
      clear hx ha hr ho hman hn hc0 hsys hallq h1 h2 hf0
      go_enter Try.func60, Try.ntmps60
      go_wp2_with fail
      refine (iMan_any _ HX.out ((HA.out.al _).al _) hN HR.out).mono ?_
      rintro e w1 ⟨rfl, bel⟩
      rw [HO.out]
      have BX1 := Lib.hid (BX0.out.go bel)
      clear bel
      have HC1 := Lib.hid (cell_be HC0.out BX1.out.below)
      have hbc := BX1.out.cell
      go_wp2_with fail
      refine (iFlag_bel _ _ hpos HC1.out hn6 HF0.out).mono ?_
      rintro e w2 ⟨rfl, bel⟩
      have BX2 := Lib.hid (BX1.out.go bel)
      clear bel hbc
      have hc1 := BX2.out.cell1
      have hf1 := BX2.out.free1
      have hbz := BX2.out.size
      go_wp2
      exact bodyPost_ret (v := .tuple #[.agg #[.slice none 0 0], .int .i64 2]) (by simp [results, Try.results60, go_sem, hc1]) rfl (retMC_no BX2.out 2 _)
    · obtain ⟨p0, rfl, hp0⟩ := flagB_true hf0
      have h1 : ffR xss (p0 : Int) = frmL xss n p0 := by simp [ffR, ho, hn, hf0]
      have h2 : ffC xss (p0 : Int) = 0 := by simp [ffC, ho, hn, hf0]
      rw [h1, h2]
      have HF0 := Lib.hid hf0
      clear hx ha hr ho hman hn hc0 hsys hallq h1 h2 hf0
      go_enter Try.func60, Try.ntmps60
      go_wp2_with fail
      refine (iMan_any _ HX.out ((HA.out.al _).al _) hN HR.out).mono ?_
      rintro e w1 ⟨rfl, bel⟩
      rw [HO.out]
      have BX1 := Lib.hid (BX0.out.go bel)
      clear bel
      have HC1 := Lib.hid (cell_be HC0.out BX1.out.below)
      have hbc := BX1.out.cell
      go_wp2_with fail
      refine (iFlag_bel _ _ hpos HC1.out hn6 HF0.out).mono ?_
      rintro e w2 ⟨rfl, bel⟩
      have BX2 := Lib.hid (BX1.out.go bel)
      clear bel hbc
      have HC2 := Lib.hid (cell_be HC0.out BX2.out.below)
      have hbc := BX2.out.cell
      have HAB := Lib.hid (HA.out.keep BX2.out.below)
      go_wp2_with fail
      refine (iform_any _ HX.out HAB.out hN HSY.out hp0 hpos (HALLQ.out _ hp0)).mono ?_
      rintro e w9 ⟨A9, c9, rfl, own, bel⟩
      have OWN := Lib.hid own
      have BX9 := Lib.hid (BX2.out.go bel)
      have hsz := BX2.out.size
      have hc1 := BX9.out.cell1
      have hf1 := BX9.out.free1
      have hbz := BX9.out.size
      clear own bel hbc
      go_wp2
      exact bodyPost_ret (v := .tuple #[.agg #[.slice A9 _ c9], .int .i64 0]) (by simp [results, Try.results60, go_sem, hc1]) rfl (retMC_yes BX9.out OWN.out hsz (Nat.le_refl _) _ 0)
set_option maxHeartbeats 1600000 in
theorem iRenumberFlags_any {A : Option Addr} {c N : Nat} {xss : List (List Int)} {B1 : Option Addr} {d1 m1 : Nat} {y1 : List Int} (w : World) (hx : xss.length = N) (ha : RdSS w A xss) (hN : N ≤ 1048576) (hr : ∀ xs ∈ xss, (xs.length : Int) ≤ 1048576) (hx1 : y1.length = m1) (ha1 : Rd w B1 (ints y1)) (hm1 : m1 ≤ 1048576) :
    Calls Try.prog 59 #[.agg #[.slice A N c], .slice B1 m1 d1] w (RetMC w (rnR xss y1) (rnC xss y1)) := by
  have HX := Lib.hid hx
  have HA := Lib.hid ha
  have HR := Lib.hid hr
  have HX1 := Lib.hid hx1
  have HA1 := Lib.hid ha1
  clear ha1
  cases ho : okMan xss
  · have h1 : rnR xss y1 = [] := by simp [rnR, ho]
    have h2 : rnC xss y1 = 1 := by simp [rnC, ho]
    have BX0 := Lib.hid (Bx2.start w (.slice A N c))
    rw [h1, h2]
    have HO := Lib.hid ho
    clear hx ha hr ho h1 h2 hx1
    go_enter Try.func59, Try.ntmps59
    go_wp2_with fail
    refine (iMan_any _ HX.out ((HA.out.al _).al _) hN HR.out).mono ?_
    rintro e w1 ⟨rfl, bel⟩
    rw [HO.out]
    have BX1 := Lib.hid (BX0.out.go bel)
    clear bel
    have hc1 := BX1.out.cell1
    have hf1 := BX1.out.free1
    have hbz := BX1.out.size
    go_wp2
    exact bodyPost_ret (v := .tuple #[.agg #[.slice none 0 0], .int .i64 1]) (by simp [results, Try.results59, go_sem, hc1]) rfl (retMC_no BX1.out 1 _)
  · have hman := okMan_iff.1 ho
    have hsys := hman.sys
    have hn4 := hman.f4
    have hn2 := hman.f2
    have hpos := hman.pos hx
    have hallq : ∀ q : Nat, q < flN xss → (orbL xss (flN xss) q).length = flN xss := fun q hq => hman.all hq
    obtain ⟨b, o, A0, c0, rfl, hc0⟩ := man_row0 hman ha
    obtain ⟨n, hn⟩ : ∃ n, flN xss = n := ⟨_, rfl⟩
    rw [hn] at hc0 hsys hn4 hn2 hallq
    have HC0 := Lib.hid hc0
    have HO := Lib.hid ho
    have HSY := Lib.hid hsys
    have HALLQ := Lib.hid hallq
    have HMAN := Lib.hid hman
    have BX0 := Lib.hid (Bx2.start w (.slice (some ⟨b, o, none⟩) N c))
    have hn6 : n ≤ 1048576 := by omega
    by_cases hl : m1 = n
    · subst hl
      have hne : ((m1 : Int) != (m1 : Int)) = false := by simp
      cases hp : okP y1
      · have h1 : rnR xss y1 = [] := by simp [rnR, ho, hn, hx1, hp]
        have h2 : rnC xss y1 = 2 := by simp [rnC, ho, hn, hx1, hp]
        rw [h1, h2]
        have HP := Lib.hid hp
        clear hx ha hr ho hman hn hc0 hsys hallq h1 h2 hx1 hp
        go_enter Try.func59, Try.ntmps59
        go_wp2_with fail
        refine (iMan_any _ HX.out ((HA.out.al _).al _) hN HR.out).mono ?_
        rintro e w1 ⟨rfl, bel⟩
        rw [HO.out]
        have BX1 := Lib.hid (BX0.out.go bel)
        clear bel
        have HC1 := Lib.hid (cell_be HC0.out BX1.out.below)
        have hbc := BX1.out.cell
        go_wp2_with fail
        refine (flags_bel _ hpos HC1.out).mono ?_
        rintro e w2 ⟨rfl, bel⟩
        have BX2 := Lib.hid (BX1.out.go bel)
        clear bel hbc
        have hbc := BX2.out.cell
        go_wp2_with fail
        refine (iperm_any _ HX1.out (HA1.out.keep BX2.out.below) hm1).mono ?_
        rintro e w3 ⟨rfl, bel⟩
        rw [HP.out]
        have BX3 := Lib.hid (BX2.out.go bel)
        clear bel hbc
        have hc1 := BX3.out.cell1
        have hf1 := BX3.out.free1
        have hbz := BX3.out.size
        go_wp2
        exact bodyPost_ret (v := .tuple #[.agg #[.slice none 0 0], .int .i64 2]) (by simp [results, Try.results59, go_sem, hc1]) rfl (retMC_no BX3.out 2 _)
      · have h1 : rnR xss y1 = renM xss y1 := by simp [rnR, ho, hn, hx1, hp]
        have h2 : rnC xss y1 = 0 := by simp [rnC, ho, hn, hx1, hp]
        rw [h1, h2]
        have HP := Lib.hid hp
        clear hx ha hr ho hman hn hc0 hsys hallq h1 h2 hx1 hp
        go_enter Try.func59, Try.ntmps59
        go_wp2_with fail
        refine (iMan_any _ HX.out ((HA.out.al _).al _) hN HR.out).mono ?_
        rintro e w1 ⟨rfl, bel⟩
        rw [HO.out]
        have BX1 := Lib.hid (BX0.out.go bel)
        clear bel
        have HC1 := Lib.hid (cell_be HC0.out BX1.out.below)
        have hbc := BX1.out.cell
        go_wp2_with fail
        refine (flags_bel _ hpos HC1.out).mono ?_
        rintro e w2 ⟨rfl, bel⟩
        have BX2 := Lib.hid (BX1.out.go bel)
        clear bel hbc
        have hbc := BX2.out.cell
        go_wp2_with fail
        refine (iperm_any _ HX1.out (HA1.out.keep BX2.out.below) hm1).mono ?_
        rintro e w3 ⟨rfl, bel⟩
        rw [HP.out]
        have BX3 := Lib.hid (BX2.out.go bel)
        clear bel hbc
        have HC3 := Lib.hid (cell_be HC0.out BX3.out.below)
        have hbc := BX3.out.cell
        have HAB := Lib.hid (HA.out.keep BX3.out.below)
        have HAB1 := Lib.hid (HA1.out.keep BX3.out.below)
        go_wp2_with fail
        refine (iren_any _ HX.out HAB.out HSY.out HX1.out HAB1.out HP.out).mono ?_
        rintro e w9 ⟨A9, c9, rfl, own, bel⟩
        have OWN := Lib.hid own
        have BX9 := Lib.hid (BX3.out.go bel)
        have hsz := BX3.out.size
        have hc1 := BX9.out.cell1
        have hf1 := BX9.out.free1
        have hbz := BX9.out.size
        clear own bel hbc
        go_wp2
        exact bodyPost_ret (v := .tuple #[.agg #[.slice A9 _ c9], .int .i64 0]) (by simp [results, Try.results59, go_sem, hc1]) rfl (retMC_yes BX9.out OWN.out hsz (Nat.le_refl _) _ 0)
    · have hne : ((m1 : Int) != (n : Int)) = true := by rw [bne_iff_ne]; omega
      have hl2 : ¬ m1 = flN xss := by omega
      have h1 : rnR xss y1 = [] := by simp [rnR, ho, hx1, hl2]
      have h2 : rnC xss y1 = 2 := by simp [rnC, ho, hx1, hl2]
      rw [h1, h2]
      clear hx ha hr ho hman hn hc0 hsys hallq h1 h2 hx1 hl hl2
      go_enter Try.func59, Try.ntmps59
      go_wp2_with fail
      refine (iMan_any _ HX.out ((HA.out.al _).al _) hN HR.out).mono ?_
      rintro e w1 ⟨rfl, bel⟩
      rw [HO.out]
      have BX1 := Lib.hid (BX0.out.go bel)
      clear bel
      have HC1 := Lib.hid (cell_be HC0.out BX1.out.below)
      have hbc := BX1.out.cell
      go_wp2_with fail
      refine (flags_bel _ hpos HC1.out).mono ?_
      rintro e w2 ⟨rfl, bel⟩
      have BX2 := Lib.hid (BX1.out.go bel)
      clear bel hbc
      have hc1 := BX2.out.cell1
      have hf1 := BX2.out.free1
      have hbz := BX2.out.size
      go_wp2
      exact bodyPost_ret (v := .tuple #[.agg #[.slice none 0 0], .int .i64 2]) (by simp [results, Try.results59, go_sem, hc1]) rfl (retMC_no BX2.out 2 _)
end Go.Proofs.Ytjkddoiacifhpaa
