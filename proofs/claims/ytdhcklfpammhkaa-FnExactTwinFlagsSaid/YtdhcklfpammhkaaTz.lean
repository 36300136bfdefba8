/- TwinFlags of both. -/
import Derived.Test.YtdhcklfpammhkaaTx
namespace Go.Proofs.Ytdhcklfpammhkaa
open Go.RowKit

set_option maxHeartbeats 1600000 in
theorem iTwinFlags_any {A : Option Addr} {c N : Nat} {xss : List (List Int)} (w : World) (hx : xss.length = N) (ha : RdSS w A xss) (hN : N ≤ 1048576) (hr : ∀ xs ∈ xss, (xs.length : Int) ≤ 1048576) (hcap : N ≤ c) (hc63 : c ≤ 9223372036854775807) :
    Calls Try.prog 117 #[.agg #[.slice A N c]] w (RetS w (twR xss) (twC xss)) := by
  have HX := Lib.hid hx
  have HA := Lib.hid ha
  have HR := Lib.hid hr
  have hq := fun (w : World) (a : Option Addr) (n c : Nat) => Lib.run_eql_slice_nil (P := Try.prog) w 24 2 a n c 0 0 Try.underlying24
  have BX0 := Lib.hid (Bx.start w (.slice A N c) 51)
  cases ho : okMan xss
  · obtain ⟨h1, h2⟩ := twR_no ho
    rw [h1, h2]
    have HO := Lib.hid ho
    have hbc := BX0.out.cell
    clear hx ha hr ho h1 h2
    go_enter Try.func117, Try.ntmps117
    go_wp2_with fail
    refine (iMan_any _ HX.out (HA.out.keep BX0.out.below) hN HR.out).mono ?_
    rintro e w1 ⟨rfl, bel⟩
    rw [HO.out]
    have BX1 := Lib.hid (BX0.out.go bel)
    clear bel hbc
    go_wp2
    go_ret2
    exact ⟨none, 0, rfl, World.ownsRow_nil _ _ _ _, BX1.out.below⟩
  · have hman := okMan_iff.1 ho
    have hsys := hman.sys
    have hn4 := hman.f4
    have hn2 := hman.f2
    have hN5 := hman.r5
    have hpos := hman.pos hx
    rw [hx] at hN5
    obtain ⟨b, o, A0, c0, rfl, hc0⟩ := man_row0 hman ha
    have TY := Lib.hid (fun (L : List Int) (h : TwOk xss (flN xss) N L) => twR_yes ho (hx.symm ▸ h))
    have TN := Lib.hid (fun (h : ∀ f g : Nat, f < g → g < flN xss → ¬ Tw xss (flN xss) N f g) => twR_none ho (hx.symm ▸ h))
    obtain ⟨n, hn⟩ : ∃ n, flN xss = n := ⟨_, rfl⟩
    rw [hn] at hc0 hsys hn4 hn2 TY TN
    have HC0 := Lib.hid hc0
    have HO := Lib.hid ho
    have HSY := Lib.hid hsys
    have hbc := BX0.out.cell
    clear hx ha hr ho hman hn hc0 hsys
    go_enter Try.func117, Try.ntmps117
    go_wp2_with fail
    refine (iMan_any _ HX.out (HA.out.keep BX0.out.below) hN HR.out).mono ?_
    rintro e w1 ⟨rfl, bel⟩
    rw [HO.out]
    have BX1 := Lib.hid (BX0.out.go bel)
    clear bel hbc
    have hbc := BX1.out.cell
    go_wp2_with fail
    refine (itw_any _ HX.out (HA.out.keep BX1.out.below) HSY.out (cell_be HC0.out BX1.out.below) hpos hcap hc63 (by omega) hN5 hn4).mono ?_
    rintro e w2 hpost
    rcases hpost with ⟨L, hL, hl2, A2, c2, rfl, own, bel⟩ | ⟨hno, rfl, bel⟩
    · obtain ⟨e1, e2⟩ := TY.out L hL
      have E1 := Lib.hid e1
      have E2 := Lib.hid e2
      have BX2 := Lib.hid (BX1.out.go bel)
      have OW := Lib.hid own
      have hs := BX1.out.size
      obtain ⟨g2, rfl⟩ := own_shape own (by omega)
      clear own bel hbc e1 e2 hL hl2
      go_wp2
      go_ret2
      show RetS w (twR xss) (twC xss) _ _
      rw [E1.out, E2.out]
      exact ⟨some ⟨g2, 0, none⟩, c2, rfl, own_base OW.out (Nat.le_of_lt hs), BX2.out.below⟩
    · obtain ⟨e1, e2⟩ := TN.out hno
      have E1 := Lib.hid e1
      have E2 := Lib.hid e2
      have BX2 := Lib.hid (BX1.out.go bel)
      clear bel hbc e1 e2 hno
      go_wp2
      go_ret2
      show RetS w (twR xss) (twC xss) _ _
      rw [E1.out, E2.out]
      exact ⟨none, 0, rfl, World.ownsRow_nil _ _ _ _, BX2.out.below⟩

/-- The labels of the first k ranks. -/
def lbT (xss : List (List Int)) (n k : Nat) : List (List Int) := (List.range k).map fun i => facL xss n i
theorem lbT_at {xss : List (List Int)} {n k i : Nat} (h : i < k) : (lbT xss n k)[i]? = some (facL xss n i) := by simp [lbT, h]

def SmI (xss : List (List Int)) (n f g i : Nat) (sm : Bool) : Prop := sm = true ↔ ∀ j, j < i → (facL xss n j).getD f 0 = (facL xss n j).getD g 0
set_option maxHeartbeats 6400000 in
set_option maxRecDepth 100000 in
theorem sTwinFlags_any {A : Option Addr} {c N : Nat} {xss : List (List Int)} (w : World) (hx : xss.length = N) (ha : RdSS w A xss) (hN : N ≤ 1048576) (hr : ∀ xs ∈ xss, (xs.length : Int) ≤ 1048576) :
    Calls Try.prog 116 #[.agg #[.slice A N c]] w (RetS w (twR xss) (twC xss)) := by
  have HX := Lib.hid hx
  have HA := Lib.hid ha
  have HR := Lib.hid hr
  have BX0 := Lib.hid (Bx.start w (.slice A N c) 51)
  cases ho : okMan xss
  · obtain ⟨h1, h2⟩ := twR_no ho
    rw [h1, h2]
    have HO := Lib.hid ho
    have hbc := BX0.out.cell
    clear hx ha hr ho h1 h2
    go_enter Try.func116, Try.ntmps116
    go_wp2_with fail
    refine (sIs_any _ HX.out (HA.out.keep BX0.out.below) hN HR.out).mono ?_
    rintro e w1 ⟨rfl, bel⟩
    rw [HO.out]
    have BX1 := Lib.hid (BX0.out.go bel)
    clear bel hbc
    go_wp2
    go_ret2
    exact ⟨none, 0, rfl, World.ownsRow_nil _ _ _ _, BX1.out.below⟩
  · have hman := okMan_iff.1 ho
    have hsys := hman.sys
    have hn4 := hman.f4
    have hn2 := hman.f2
    have hN5 := hman.r5
    have hpos := hman.pos hx
    rw [hx] at hN5
    obtain ⟨b, o, A0, c0, rfl, hc0⟩ := man_row0 hman ha
    have TY := Lib.hid (fun (L : List Int) (h : TwOk xss (flN xss) N L) => twR_yes ho (hx.symm ▸ h))
    have TN := Lib.hid (fun (h : ∀ f g : Nat, f < g → g < flN xss → ¬ Tw xss (flN xss) N f g) => twR_none ho (hx.symm ▸ h))
    obtain ⟨n, hn⟩ : ∃ n, flN xss = n := ⟨_, rfl⟩
    rw [hn] at hc0 hsys hn4 hn2 TY TN
    have HC0 := Lib.hid hc0
    have HO := Lib.hid ho
    have HSY := Lib.hid hsys
    have hbc := BX0.out.cell
    clear hx ha hr ho hman hn hc0 hsys
    go_enter Try.func116, Try.ntmps116
    go_wp2_with fail
    refine (sIs_any _ HX.out (HA.out.keep BX0.out.below) hN HR.out).mono ?_
    rintro e w1 ⟨rfl, bel⟩
    rw [HO.out]
    have BX1 := Lib.hid (BX0.out.go bel)
    have OS0 := Lib.hid (show OwnSS (w1.alloc (.cells #[] 24)) w1.heap.size (w1.heap.size + 1) 24 (some ⟨w1.heap.size, 0, none⟩) 0 0 (lbT xss n 0) from by
      have h := World.ownsRow_lit (base := w1.heap.size) (e := 24) (size := 1) w1 #[] 0 (Nat.le_refl _) (by decide) (by simp)
      exact ⟨[], by simpa using h, fun k hk => by simp [Value.ownBlock] at hk; omega, rfl, fun j xs h => by simp [lbT] at h, fun i j u v _ h => by simp at h⟩)
    clear bel hbc
    have hbc := BX1.out.cell
    have hz1 := BX1.out.size
    go_wp2
    clear hbc
    go_loopw [4, 5] (fun u v wr => ∃ (k c4 hi : Nat) (A4 : Option Addr), u = .slice A4 k c4 ∧ v = .int .i64 k ∧ k ≤ N ∧ OwnSS wr w1.heap.size hi 24 A4 k c4 (lbT xss n k) ∧ w1.heap.size ≤ hi ∧ hi ≤ wr.heap.size ∧ Bx w wr (.slice (some ⟨b, o, none⟩) N c) 51) (fun _ v _ => N - (intOf v).toNat)
    case atStart => exact ⟨0, 0, _, _, rfl, rfl, Nat.zero_le _, OS0.out, by omega, by simp, BX1.out.al _⟩
    case round =>
      obtain ⟨k, c4, hi, A4, rfl, rfl, hk, os, hlo, hhi, bx⟩ := hrel
      have OS := Lib.hid os
      have BX := Lib.hid bx
      have hz9 := bx.size
      have hbc := bx.cell
      clear os bx OS0 BX1
      by_cases hkN : k < N
      · go_wp2_with fail
        refine (sfaces_any _ HX.out (HA.out.keep BX.out.below) HSY.out (cell_be HC0.out BX.out.below) hkN).mono ?_
        rintro e w3 ⟨A3, c3, rfl, own, bel⟩
        have OS3 := Lib.hid (ownSS_below OS.out bel (Nat.le_refl _))
        have BX3 := Lib.hid (BX.out.go bel)
        have HL := Lib.hid (facL_len xss n k)
        have OW := Lib.hid own
        have hs3 := bel.size
        obtain ⟨vals, hv, hvin, hvr⟩ := OS3.out
        have VR := Lib.hid hv
        have hw1 : w1.heap.size ≤ w3.heap.size := by omega
        clear own bel hbc hv hvin hvr
        go_wp2_with (at_builtin; refine wpList_push2 _ rfl _ _ 35 24 rfl Try.underlying35 (.slice none 0 0) 24 Try.infoS rfl w1.heap.size _ k _ rfl VR.out _ rfl rfl (by omega) (by omega) hw1 ?_)
        intro A5 c5 w5 own5 gr5
        have hOD : w3.ownsRow wr.heap.size 2 1 (.slice A3 (facL xss n k).length c3) (facL xss n k).length (ints (facL xss n k)) := by rw [HL.out]; exact OW.out
        have os5 := ownSS_push OS3.out (by decide) hOD hhi (by omega) (fun vals' h' => by rw [row_unique h' VR.out, HL.out]; exact own5) gr5
        have OS5 := Lib.hid (show OwnSS w5 w1.heap.size w5.heap.size 24 A5 (k + 1) c5 (lbT xss n (k + 1)) from by
          have e1 : lbT xss n (k + 1) = lbT xss n k ++ [facL xss n k] := by unfold lbT; rw [List.range_succ, List.map_append]; rfl
          rw [e1]; exact os5)
        have hp := OS3.out.choose_spec.2.1
        have T5 : Turns w1.heap.size hi w3 w5 := (Turns.of_below (below1 w3 _) (Nat.le_refl _)).trans (Turns.of_grown gr5 hp)
        have BX5 := Lib.hid (BX3.out.tu T5 (by omega))
        have hs5 := T5.size
        clear own5 gr5 hOD os5 hp T5
        go_wp2
        go_roundw
        case rel => exact ⟨k + 1, c5, _, A5, rfl, by go_num, by omega, OS5.out, by omega, Nat.le_refl _, BX5.out⟩
        case measure => simp [intOf]; omega
      · obtain rfl : k = N := by omega
        have RD := Lib.hid (ownSS_rd OS.out)
        have hk0 : 0 < k := hpos
        obtain ⟨wl, hwl⟩ : ∃ wl, wl = wr := ⟨_, rfl⟩
        subst hwl
        clear OS
        go_wp2
        clear hbc
        go_loopw [6] (fun v wr => ∃ f : Nat, f ≤ n ∧ v = .int .i64 f ∧ (∀ f' g' : Nat, f' < f → f' < g' → g' < n → ¬ Tw xss n k f' g') ∧ Below wl.heap.size wl wr) (fun v _ => n - (intOf v).toNat)
        case atStart => exact ⟨0, Nat.zero_le _, rfl, fun f' g' h => absurd h (by omega), Below.refl _ _⟩
        case round =>
          obtain ⟨f, hf, rfl, hno, bel⟩ := hrel
          have NO := Lib.hid hno
          have B1 := Lib.hid bel
          have BX1 := Lib.hid (BX.out.go bel)
          have hbc := (BX.out.go bel).cell
          clear hno bel
          go_wp2_with fail
          refine (sFlags_bel _ hk0 (cell_be HC0.out BX1.out.below)).mono ?_
          rintro e w2 ⟨rfl, bel⟩
          have B2 := Lib.hid (B1.out.trans (bel.mono B1.out.size))
          have BX2 := Lib.hid (BX1.out.go bel)
          clear bel hbc BX1 B1
          by_cases hfn : f < n
          · go_wp2
            go_loopw [7] (fun v wr => ∃ g : Nat, f + 1 ≤ g ∧ g ≤ n ∧ v = .int .i64 g ∧ (∀ g' : Nat, f < g' → g' < g → ¬ Tw xss n k f g') ∧ Below wl.heap.size wl wr) (fun v _ => n - (intOf v).toNat)
            case atStart => exact ⟨f + 1, Nat.le_refl _, by omega, by go_num, fun g' h1 h2 => by omega, B2.out⟩
            case round =>
              obtain ⟨g, hg1, hg, rfl, hno2, bel⟩ := hrel
              have NO2 := Lib.hid hno2
              have B3 := Lib.hid bel
              have BX3 := Lib.hid (BX.out.go bel)
              have hbc := (BX.out.go bel).cell
              clear hno2 bel
              go_wp2_with fail
              refine (sFlags_bel _ hk0 (cell_be HC0.out BX3.out.below)).mono ?_
              rintro e w4 ⟨rfl, bel⟩
              have B4 := Lib.hid (B3.out.trans (bel.mono B3.out.size))
              have BX4 := Lib.hid (BX3.out.go bel)
              clear bel hbc BX3 B3
              by_cases hgn : g < n
              · go_wp2
                go_loopw [8, 9] (fun u v wr => ∃ (i : Nat) (sm : Bool), i ≤ k ∧ u = .bool sm ∧ v = .int .i64 i ∧ SmI xss n f g i sm ∧ Below wl.heap.size wl wr) (fun _ v _ => k - (intOf v).toNat)
                case atStart => exact ⟨0, true, Nat.zero_le _, rfl, rfl, ⟨fun _ j h => absurd h (by omega), fun _ => rfl⟩, B4.out⟩
                case round =>
                  obtain ⟨i, sm, hi, rfl, rfl, hsm, bel⟩ := hrel
                  have SM := Lib.hid hsm
                  have B5 := Lib.hid bel
                  have BX5 := Lib.hid (BX.out.go bel)
                  clear hsm bel
                  by_cases hik : i < k
                  · cases sm
                    · have SM2 := Lib.hid (show SmI xss n f g (i + 1) false from ⟨fun h => Bool.noConfusion h, fun h => SM.out.2 fun j hj => h j (by omega)⟩)
                      go_wp2
                      refine wp_region_quiet_below (by kernel_rfl) (by kernel_rfl) ?_
                      repeat (go_big_quiet_step ((fail)))
                      refine wpQuiet_nil ?_
                      intro _ hw'
                      obtain ⟨⟨wq, hbq⟩, hw''⟩ := hw'
                      subst hw''
                      have B6 := Lib.hid (B5.out.trans (hbq.mono B5.out.size))
                      clear hbq
                      go_wp2
                      go_roundw
                      case rel => exact ⟨i + 1, false, by omega, rfl, by go_num, SM2.out, B6.out⟩
                      case measure => simp [intOf]; omega
                    · obtain ⟨b1, o1, A1, c1, r1, rfl, hg1', hc1, hr1, hm1⟩ := (RD.out.keep B5.out).row (k := i) (by simp [lbT]; omega)
                      obtain rfl : r1 = facL xss n i := by rw [lbT_at hik] at hg1'; injection hg1' with h; exact h.symm
                      rw [facL_len] at hc1 hm1
                      obtain ⟨b2, o2, x, rfl, hgx, hcx⟩ := hr1.int (k := f) (by rw [facL_len]; exact hfn)
                      obtain ⟨b3, o3, y, he, hgy, hcy⟩ := hr1.int (k := g) (by rw [facL_len]; exact hgn)
                      obtain ⟨rfl, rfl⟩ : b2 = b3 ∧ o2 = o3 := by simpa using he
                      have p1 := BelowOf.cell hc1
                      have px := BelowOf.cell hcx
                      have py := BelowOf.cell hcy
                      have iI : (i : Int) < (k : Int) := by omega
                      have fI : (f : Int) < (n : Int) := by omega
                      have gI : (g : Int) < (n : Int) := by omega
                      have HXY := Lib.hid (show (facL xss n i).getD f 0 = x ∧ (facL xss n i).getD g 0 = y from ⟨by simp [List.getD, hgx], by simp [List.getD, hgy]⟩)
                      clear he hg1' hc1 hr1 hgx hcx hgy hcy
                      by_cases hxy : x = y
                      · have hd : (x == y) = true := by rw [hxy]; simp
                        have SM2 := Lib.hid (show SmI xss n f g (i + 1) true from ⟨fun _ j hj => by
                          rcases Nat.lt_succ_iff_lt_or_eq.1 hj with h | rfl
                          · exact SM.out.1 rfl j h
                          · rw [HXY.out.1, HXY.out.2, hxy], fun _ => rfl⟩)
                        clear hxy
                        go_wp2
                        refine wp_region_quiet_below (by kernel_rfl) (by kernel_rfl) ?_
                        repeat (go_big_quiet_step ((fail)))
                        refine wpQuiet_nil ?_
                        intro _ hw'
                        obtain ⟨⟨wq, hbq⟩, hw''⟩ := hw'
                        subst hw''
                        have B6 := Lib.hid (B5.out.trans (hbq.mono B5.out.size))
                        clear hbq
                        go_wp2
                        go_roundw
                        case rel => exact ⟨i + 1, true, by omega, rfl, by go_num, SM2.out, B6.out⟩
                        case measure => simp [intOf]; omega
                      · have hd : (x == y) = false := by rw [beq_eq_false_iff_ne]; exact hxy
                        have SM2 := Lib.hid (show SmI xss n f g (i + 1) false from ⟨fun h => Bool.noConfusion h, fun h => absurd (by have := h i (by omega); rwa [HXY.out.1, HXY.out.2] at this) hxy⟩)
                        clear hxy
                        go_wp2
                        refine wp_region_quiet_below (by kernel_rfl) (by kernel_rfl) ?_
                        repeat (go_big_quiet_step ((fail)))
                        refine wpQuiet_nil ?_
                        intro _ hw'
                        obtain ⟨⟨wq, hbq⟩, hw''⟩ := hw'
                        subst hw''
                        have B6 := Lib.hid (B5.out.trans (hbq.mono B5.out.size))
                        clear hbq
                        go_wp2
                        go_roundw
                        case rel => exact ⟨i + 1, false, by omega, rfl, by go_num, SM2.out, B6.out⟩
                        case measure => simp [intOf]; omega
                  · obtain rfl : i = k := by omega
                    cases sm
                    · have NO3 := Lib.hid (show ∀ g' : Nat, f < g' → g' < g + 1 → ¬ Tw xss n i f g' from fun g' h1 h2 => by
                        rcases Nat.lt_succ_iff_lt_or_eq.1 h2 with h | rfl
                        · exact NO2.out g' h1 h
                        · exact fun h => by have := SM.out.2 h; cases this)
                      go_wp2
                      go_roundw
                      case rel => exact ⟨g + 1, by omega, by omega, by go_num, NO3.out, B5.out⟩
                      case measure => simp [intOf]; omega
                    · have hL : TwOk xss n i [(f : Int), (g : Int)] := ⟨f, g, rfl, by omega, hgn, SM.out.1 rfl, fun f' g' h1 h2 h3 => by
                        rcases h3 with h3 | ⟨rfl, h3⟩
                        · exact NO.out f' g' h3 h1 h2
                        · exact NO2.out g' h1 h3⟩
                      obtain ⟨e1, e2⟩ := TY.out _ hL
                      have E1 := Lib.hid e1
                      have E2 := Lib.hid e2
                      clear e1 e2 hL
                      have hs5 := BX5.out.below.size
                      go_wp2
                      go_ret2
                      show RetS w (twR xss) (twC xss) _ _
                      rw [E1.out, E2.out]
                      refine ⟨some ⟨wr.heap.size, 0, none⟩, 2, rfl, ?_, BX5.out.below.trans ((below1 wr _).mono hs5)⟩
                      have h2 := World.ownsRow_lit (base := w.heap.size) (e := 2) (size := 1) wr #[.int .i64 (f : Int), .int .i64 (g : Int)] 2 hs5 (by decide) (by simp)
                      simpa using h2
              · obtain rfl : g = n := by omega
                have NO3 := Lib.hid (show ∀ f' g' : Nat, f' < f + 1 → f' < g' → g' < g → ¬ Tw xss g k f' g' from fun f' g' h1 h2 h3 => by
                  rcases Nat.lt_succ_iff_lt_or_eq.1 h1 with h | rfl
                  · exact NO.out f' g' h h2 h3
                  · exact NO2.out g' h2 h3)
                go_wp2
                go_roundw
                case rel => exact ⟨f + 1, by omega, by go_num, NO3.out, B4.out⟩
                case measure => simp [intOf]; omega
          · obtain ⟨e1, e2⟩ := TN.out (fun f' g' h1 h2 => NO.out f' g' (by omega) h1 h2)
            have E1 := Lib.hid e1
            have E2 := Lib.hid e2
            clear e1 e2
            go_wp2
            go_ret2
            show RetS w (twR xss) (twC xss) _ _
            rw [E1.out, E2.out]
            exact ⟨none, 0, rfl, World.ownsRow_nil _ _ _ _, BX2.out.below⟩
end Go.Proofs.Ytdhcklfpammhkaa
