/- impl.FacePoset. -/
import Derived.Test.YtmfddenjemoedaaFq
import Derived.Test.YtmfddenjemoedaaPt
namespace Go.Proofs.Ytmfddenjemoedaa
open Go.RowKit

noncomputable def fpK (xss : List (List Int)) : Nat := fstE xss (flN xss) xss.length
noncomputable def fpR (xss : List (List Int)) : Int := if okMan xss = true ∧ fpK xss ≤ 500 then xss.length else 0
noncomputable def fpX (xss : List (List Int)) : List Int := if okMan xss = true ∧ fpK xss ≤ 500 then rkL xss (flN xss) xss.length else []
noncomputable def fpB (xss : List (List Int)) : List (List Int) := if okMan xss = true ∧ fpK xss ≤ 500 then (List.range (fpK xss)).map (blwL xss (flN xss) xss.length) else []
noncomputable def fpC (xss : List (List Int)) : Int := if okMan xss = true then (if fpK xss ≤ 500 then 0 else 3) else 1

set_option maxHeartbeats 1600000 in
theorem iFacePoset_any {A : Option Addr} {c N : Nat} {xss : List (List Int)} (w : World) (hx : xss.length = N) (ha : RdSS w A xss) (hN : N ≤ 1048576) (hr : ∀ xs ∈ xss, (xs.length : Int) ≤ 1048576) (hcap : N ≤ c) (hc63 : c ≤ 9223372036854775807) :
    Calls Try.prog 38 #[.agg #[.slice A N c]] w (RetPC w (fpR xss) (fpX xss) (fpB xss) (fpC xss)) := by
  have HX := Lib.hid hx
  have HA := Lib.hid ha
  have HR := Lib.hid hr
  have BX0 := Lib.hid ((Bx.start w (.slice A N c) 45).al (.cells #[.int .i64 0, .slice none 0 0, .slice none 0 0] 62))
  have Z0 := Lib.hid (by have := Blk.new (w.alloc (.cells #[.slice A N c] 45)) #[.int .i64 0, .slice none 0 0, .slice none 0 0] 62; simpa using this)
  have hbc := BX0.out.cell
  cases ho : okMan xss
  · have h1 : fpR xss = 0 := by simp [fpR, ho]
    have h2 : fpX xss = [] := by simp [fpX, ho]
    have h3 : fpB xss = [] := by simp [fpB, ho]
    have h4 : fpC xss = 1 := by simp [fpC, ho]
    rw [h1, h2, h3, h4]
    have HO := Lib.hid ho
    clear hx ha hr ho h1 h2 h3 h4
    go_enter Try.func38, Try.ntmps38
    go_wp2_with fail
    refine (iMan_any _ HX.out (HA.out.keep BX0.out.below) hN HR.out).mono ?_
    rintro e w1 ⟨rfl, bel⟩
    rw [HO.out]
    have BX1 := Lib.hid (BX0.out.go bel)
    have Z1 := Lib.hid (Z0.out.go bel)
    clear bel hbc
    have z0 := Z1.out.cell (i := 0) rfl
    have z1 := Z1.out.cell (i := 1) rfl
    have z2 := Z1.out.cell (i := 2) rfl
    have f0 := Z1.out.free 0
    have f1 := Z1.out.free 1
    have f2 := Z1.out.free 2
    go_wp2
    have Z4 := ((Z1.out.set 0 (.int .i64 0)).set 1 (.slice none 0 0)).set 2 (.slice none 0 0)
    have y0 := Z4.cell (i := 0) rfl
    have y1 := Z4.cell (i := 1) rfl
    have y2 := Z4.cell (i := 2) rfl
    have T4 : Turns (w.heap.size + 1) (w.heap.size + 2) w1 _ := ((turns_set w1 (w.heap.size + 1) 0 (.int .i64 0)).trans (turns_set _ (w.heap.size + 1) 1 (.slice none 0 0))).trans (turns_set _ (w.heap.size + 1) 2 (.slice none 0 0))
    refine bodyPost_ret (v := .tuple #[.agg #[.int .i64 0, .slice none 0 0, .slice none 0 0], .int .i64 1]) (by simp [results, Try.results38, go_sem, y0, y1, y2]) rfl ⟨none, 0, none, 0, w.heap.size, rfl, Nat.le_refl _, by have := BX1.out.size; simp; omega, World.ownsRow_nil _ _ _ _, fun k hk => by simp [Value.ownBlock] at hk, ownSS_nil _ _ _ _, T4.below BX1.out.below BX1.out.below.size (by omega)⟩
  · have hman := okMan_iff.1 ho
    have hsys := hman.sys
    have hn4 := hman.f4
    have hn2 := hman.f2
    have hN5 := hman.r5
    have hpos := hman.pos hx
    rw [hx] at hN5
    obtain ⟨b, o, A0, c0, rfl, hc0⟩ := man_row0 hman ha
    obtain ⟨n, hn⟩ : ∃ n, flN xss = n := ⟨_, rfl⟩
    obtain ⟨S, hS⟩ : ∃ S, fstE xss n N = S := ⟨_, rfl⟩
    have hK : fpK xss = S := by rw [← hS, fpK, hn, hx]
    have hkl : (rkL xss n N).length = S := by rw [rkL_len, hS]
    rw [hn] at hc0 hsys hn4 hn2
    have HC0 := Lib.hid hc0
    have HO := Lib.hid ho
    have HSY := Lib.hid hsys
    have HKL := Lib.hid hkl
    have HFN := Lib.hid hn
    have HSS := Lib.hid hS
    have HK := Lib.hid hK
    clear hx ha hr ho hman hn hc0 hsys hS hkl hK
    go_enter Try.func38, Try.ntmps38
    go_wp2_with fail
    refine (iMan_any _ HX.out (HA.out.keep BX0.out.below) hN HR.out).mono ?_
    rintro e w1 ⟨rfl, bel⟩
    rw [HO.out]
    have BX1 := Lib.hid (BX0.out.go bel)
    have Z1 := Lib.hid (Z0.out.go bel)
    clear bel hbc
    have hbc := BX1.out.cell
    go_wp2_with fail
    refine (ifp_any _ HX.out (HA.out.keep BX1.out.below) HSY.out (cell_be HC0.out BX1.out.below) hpos hcap hc63 (by omega) hN5 hn4).mono ?_
    rintro e w2 ⟨A', c', B', d', mid, rfl, m1, m2, own, pin, own2, bel⟩
    rw [HSS.out] at own2 ⊢
    rw [HKL.out] at own pin ⊢
    have hlb : ((List.range S).map (blwL xss n N)).length = S := by simp
    rw [hlb] at own2 ⊢
    have BX2 := Lib.hid (BX1.out.go bel)
    have Z2 := Lib.hid (Z1.out.go bel)
    have hzz := Z1.out.lt
    have O1 := Lib.hid own
    have P1 := Lib.hid pin
    have O2 := Lib.hid own2
    clear bel hbc own pin own2 hlb
    go_wp2_with fail
    refine (elems_bel _).mono ?_
    rintro e w3 ⟨rfl, bel3⟩
    have X3 := Lib.hid ((Blk.new w2 #[.int .i64 N, .slice A' S c', .slice B' S d'] 62).go bel3)
    have BX3 := Lib.hid ((BX2.out.al (.cells #[.int .i64 N, .slice A' S c', .slice B' S d'] 62)).go bel3)
    have Z3 := Lib.hid ((Z2.out.go (below1 w2 (.cells #[.int .i64 N, .slice A' S c', .slice B' S d'] 62))).go bel3)
    have O13 := Lib.hid (own_below (own_below O1.out (below1 w2 (.cells #[.int .i64 N, .slice A' S c', .slice B' S d'] 62)) (Nat.le_refl _)) bel3 (Nat.le_refl _))
    have O23 := Lib.hid (ownSS_below (ownSS_below O2.out (below1 w2 (.cells #[.int .i64 N, .slice A' S c', .slice B' S d'] 62)) (Nat.le_refl _)) bel3 (Nat.le_refl _))
    have hs3 : w2.heap.size < w3.heap.size := by have := bel3.size; simp at this; omega
    clear bel3
    have x0 := X3.out.cell (i := 0) rfl
    have x1 := X3.out.cell (i := 1) rfl
    have x2 := X3.out.cell (i := 2) rfl
    have z0 := Z3.out.cell (i := 0) rfl
    have z1 := Z3.out.cell (i := 1) rfl
    have z2 := Z3.out.cell (i := 2) rfl
    have f0 := Z3.out.free 0
    have f1 := Z3.out.free 1
    have f2 := Z3.out.free 2
    by_cases hS5 : S ≤ 500
    · have h1 : fpR xss = N := by simp [fpR, HO.out, HK.out, hS5, HX.out]
      have h2 : fpX xss = rkL xss n N := by simp [fpX, HO.out, HK.out, hS5, HX.out, HFN.out]
      have h3 : fpB xss = (List.range S).map (blwL xss n N) := by simp [fpB, HO.out, HK.out, hS5, HX.out, HFN.out]
      have h4 : fpC xss = 0 := by simp [fpC, HO.out, HK.out, hS5]
      have H1 := Lib.hid h1
      have H2 := Lib.hid h2
      have H3 := Lib.hid h3
      have H4 := Lib.hid h4
      clear h1 h2 h3 h4
      have hSi : ¬ ((500 : Int) < (S : Int)) := by omega
      go_wp2

      have Z4 := ((Z3.out.set 0 (.int .i64 N)).set 1 (.slice A' S c')).set 2 (.slice B' S d')
      have y0 := Z4.cell (i := 0) rfl
      have y1 := Z4.cell (i := 1) rfl
      have y2 := Z4.cell (i := 2) rfl
      have T4 : Turns (w.heap.size + 1) (w.heap.size + 2) w3 _ := ((turns_set w3 (w.heap.size + 1) 0 (.int .i64 N)).trans (turns_set _ (w.heap.size + 1) 1 (.slice A' S c'))).trans (turns_set _ (w.heap.size + 1) 2 (.slice B' S d'))
      have O5 := T4.own O13.out P1.out (.inr (by omega))
      have O6 := ownSS_turns O23.out T4 (.inr (by omega))
      have hlb : ((List.range S).map (blwL xss n N)).length = S := by simp
      refine bodyPost_ret (v := .tuple #[.agg #[.int .i64 N, .slice A' S c', .slice B' S d'], .int .i64 0]) (by simp [results, Try.results38, go_sem, y0, y1, y2]) rfl ?_
      rw [H1.out, H2.out, H3.out, H4.out]
      refine ⟨A', c', B', d', mid, ?_, by omega, by simp; omega, ?_, ?_, ?_, T4.below BX3.out.below BX3.out.below.size (by omega)⟩
      · rw [HKL.out, hlb]
      · rw [HKL.out]; exact own_base O5 (by omega)
      · rw [HKL.out]; exact inB_wide P1.out (by omega) (Nat.le_refl _)
      · rw [hlb]; exact ownSS_wide O6 (Nat.le_refl _) (by simp; omega)
    · have h1 : fpR xss = 0 := by simp [fpR, HO.out, HK.out, hS5]
      have h2 : fpX xss = [] := by simp [fpX, HO.out, HK.out, hS5]
      have h3 : fpB xss = [] := by simp [fpB, HO.out, HK.out, hS5]
      have h4 : fpC xss = 3 := by simp [fpC, HO.out, HK.out, hS5]
      have H1 := Lib.hid h1
      have H2 := Lib.hid h2
      have H3 := Lib.hid h3
      have H4 := Lib.hid h4
      clear h1 h2 h3 h4
      have hSi : (500 : Int) < (S : Int) := by omega
      go_wp2

      have Z4 := ((Z3.out.set 0 (.int .i64 0)).set 1 (.slice none 0 0)).set 2 (.slice none 0 0)
      have y0 := Z4.cell (i := 0) rfl
      have y1 := Z4.cell (i := 1) rfl
      have y2 := Z4.cell (i := 2) rfl
      have T4 : Turns (w.heap.size + 1) (w.heap.size + 2) w3 _ := ((turns_set w3 (w.heap.size + 1) 0 (.int .i64 0)).trans (turns_set _ (w.heap.size + 1) 1 (.slice none 0 0))).trans (turns_set _ (w.heap.size + 1) 2 (.slice none 0 0))
      refine bodyPost_ret (v := .tuple #[.agg #[.int .i64 0, .slice none 0 0, .slice none 0 0], .int .i64 3]) (by simp [results, Try.results38, go_sem, y0, y1, y2]) rfl ?_
      rw [H1.out, H2.out, H3.out, H4.out]
      refine ⟨none, 0, none, 0, w.heap.size, rfl, Nat.le_refl _, by have := BX3.out.size; simp; omega, World.ownsRow_nil _ _ _ _, fun k hk => by simp [Value.ownBlock] at hk, ownSS_nil _ _ _ _, T4.below BX3.out.below BX3.out.below.size (by omega)⟩
end Go.Proofs.Ytmfddenjemoedaa
