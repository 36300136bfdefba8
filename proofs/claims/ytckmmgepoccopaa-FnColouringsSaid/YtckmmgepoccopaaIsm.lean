/- impl.SmallestPolygons. -/
import Derived.Test.YtckmmgepoccopaaIsx
import Derived.Test.YtckmmgepoccopaaSml
namespace Go.Proofs.Ytckmmgepoccopaa
open Go.RowKit

/-- A list of numbers as far as k of them are written. -/
def flTo (L : List Int) (M k : Nat) : List Int := (List.range M).map fun j => if j < k then L.getD j 0 else 0
section
variable {L : List Int} {M k : Nat} {x : Int}
theorem flTo_len : (flTo L M k).length = M := by simp [flTo]
theorem flTo_zero : flTo L M 0 = List.replicate M 0 := by
  apply List.ext_getElem?
  intro j
  by_cases hj : j < M
  · simp [flTo, hj]
  · simp [flTo, hj]
theorem flTo_step (hk : k < M) (hx : L[k]? = some x) : (flTo L M k).set k x = flTo L M (k + 1) := by
  apply List.ext_getElem?
  intro j
  by_cases hj : k = j
  · subst hj
    rw [List.getElem?_set_self (by rw [flTo_len]; exact hk)]
    simp [flTo, hk, List.getD, hx]
  · rw [List.getElem?_set_ne hj]
    by_cases hq : j < M
    · have : j < k + 1 ↔ j < k := by omega
      simp [flTo, hq, this]
    · simp [flTo, hq]
theorem flTo_all (hl : L.length = M) : flTo L M M = L := by
  apply List.ext_getElem?
  intro j
  by_cases hj : j < M
  · have hjl : j < L.length := by omega
    simp [flTo, hj, List.getD, hjl]
  · rw [List.getElem?_eq_none (by rw [flTo_len]; omega), List.getElem?_eq_none (by omega)]
end

set_option maxHeartbeats 1600000 in
set_option maxRecDepth 8000 in
theorem iSmallestPolygons_any {A : Option Addr} {c N : Nat} {xss : List (List Int)} (w : World) (hx : xss.length = N) (ha : RdSS w A xss) (hN : N ≤ 1048576) (hr : ∀ xs ∈ xss, (xs.length : Int) ≤ 1048576) (hcap : N ≤ c) (hc63 : c ≤ 9223372036854775807) :
    Calls Try.prog 70 #[.agg #[.slice A N c]] w (RetS w (spR xss) (spC xss)) := by
  have HX := Lib.hid hx
  have HA := Lib.hid ha
  have HR := Lib.hid hr
  have st0 := (St.start w).addBlk #[.slice A N c] 26
  have S0 := Lib.hid st0
  have hbc := (st0.blk (i := 0) rfl).cell (i := 0) rfl
  clear st0
  cases ho : okMan xss
  · have h1 : spR xss = [] := by simp [spR, ho]
    have h2 : spC xss = 1 := by simp [spC, ho]
    rw [h1, h2]
    have HO := Lib.hid ho
    clear hx ha hr ho h1 h2
    go_enter Try.func70, Try.ntmps70
    go_wp2_with fail
    refine (iMan_any _ HX.out (HA.out.keep S0.out.below) hN HR.out).mono ?_
    rintro e w1 ⟨rfl, bel⟩
    rw [HO.out]
    have S1 := Lib.hid (S0.out.go bel)
    clear bel hbc
    go_wp2
    go_ret2
    exact ⟨none, 0, rfl, World.ownsRow_nil _ _ _ _, S1.out.below⟩
  · have hman := okMan_iff.1 ho
    have hsys := hman.sys
    have hn2 := hman.f2
    have hN5 := hman.r5
    have hpos := hman.pos hx
    rw [hx] at hN5
    obtain ⟨b, o, A0, c0, rfl, hc0⟩ := man_row0 hman ha
    obtain ⟨n, hn⟩ : ∃ n, flN xss = n := ⟨_, rfl⟩
    rw [hn] at hc0 hsys hn2
    obtain ⟨M, hNM⟩ : ∃ M, N = M + 1 := ⟨N - 1, by omega⟩
    have h1 : spR xss = spL xss n M := by simp [spR, ho, hn, hx, hNM]
    have hsl : (spL xss n M).length = M := by simp [spL]
    have h2 : spC xss = 0 := by simp [spC, ho]
    rw [h1, h2]
    have HC0 := Lib.hid hc0
    have HSY := Lib.hid hsys
    have HO := Lib.hid ho
    have hw : IntKind.i64.wrap ((N : Int) - 1) = (M : Int) := by rw [IntWalk.i64_in _ (by omega)]; omega
    have HNM := Lib.hid hNM
    have HSL := Lib.hid hsl
    have hM4 : M ≤ 4 := by omega
    have hmk := run_make_row' (P := Try.prog) 28 2 (.int .i64 0) 8 Try.underlying28 Try.info2 rfl .i64 .i64 M (by omega) (by omega)
    clear hx ha hr ho hman hn hc0 hsys h1 h2 hNM hsl
    go_enter Try.func70, Try.ntmps70
    go_wp2_with fail
    refine (iMan_any _ HX.out (HA.out.keep S0.out.below) hN HR.out).mono ?_
    rintro e w1 ⟨rfl, bel⟩
    rw [HO.out]
    have S1 := Lib.hid (S0.out.go bel)
    clear bel hbc
    have hbc := (S1.out.blk (i := 0) rfl).cell (i := 0) rfl
    go_wp2_with fail
    refine (rank_bel _).mono ?_
    rintro e w2 ⟨rfl, bel⟩
    have S2 := Lib.hid ((S1.out.go bel).addMake (.int .i64 0) M 2 (by unfold maxLen; omega))
    clear bel hbc S1
    go_wp2
    clear hmk
    go_loopw [15] (fun v wr => ∃ k : Nat, k ≤ M ∧ v = .int .i64 k ∧ St w wr [.blk w.heap.size #[.slice (some ⟨b, o, none⟩) N c] 26, .own 2 (some ⟨w2.heap.size, 0, none⟩) M M (ints (flTo (spL xss n M) M k))]) (fun v _ => M - (intOf v).toNat)
    case atStart => exact ⟨0, Nat.zero_le _, rfl, by rw [flTo_zero]; simpa [ints] using S2.out⟩
    case round =>
      obtain ⟨k, hk, rfl, st⟩ := hrel
      clear S2
      by_cases hkM : k < M
      · have hbc := (st.blk (i := 0) rfl).cell (i := 0) rfl
        have S3 := Lib.hid st
        have kI : (k : Int) < (M : Int) := by omega
        have h2y := okSys_two HSY.out k
        have hmn := orbs_cnt h2y (Nat.le_refl n)
        have hm0 : 0 < (orbsTo ((xss.drop k).take 2) n n).length := by
          obtain ⟨j, _, hj⟩ := lab_at (k := 0) h2y (by omega) rfl (by omega)
          omega
        have hph := polL_head (yss := (xss.drop k).take 2) (n := n) (by omega)
        have hl0 : 0 < (polL ((xss.drop k).take 2) n).length := (List.getElem?_eq_some_iff.1 hph).1
        obtain ⟨l, hl⟩ : ∃ l, (polL ((xss.drop k).take 2) n).length = l := ⟨_, rfl⟩
        obtain ⟨x, hxx⟩ : ∃ x, (polL ((xss.drop k).take 2) n).headD 0 = x := ⟨_, rfl⟩
        rw [hl] at hl0
        rw [hxx] at hph
        have hsk : (spL xss n M)[k]? = some x := by simp [spL, hkM, ← hxx]
        have HPH := Lib.hid hph
        have HLL := Lib.hid hl
        have HSK := Lib.hid hsk
        clear st h2y hph hl hxx hsk
        go_wp2_with fail
        refine (ipoly_any _ HX.out (HA.out.keep S3.out.below) HSY.out (cell_be HC0.out S3.out.below) (by have := HNM.out; omega) hcap hc63 (by omega) rfl hm0 hmn).mono ?_
        rintro e w5 ⟨A5, c5, rfl, own, bel⟩
        rw [HLL.out] at own ⊢
        obtain ⟨g5, rfl⟩ := own_shape own hl0
        have hc5 := own_cell own (show (ints (polL ((xss.drop k).take 2) n))[0]? = some (.int .i64 x) by simp [HPH.out])
        have st5 := S3.out.go bel
        obtain ⟨u, hu⟩ : ∃ u, (ints (flTo (spL xss n M) M k))[k]? = some u := ⟨_, List.getElem?_eq_getElem (by simp [flTo_len]; exact hkM)⟩
        have c3 := own_cell (st5.own (i := 1) rfl) hu
        have f3 := (st5.own (i := 1) rfl).frozenAt k
        have st6 := st5.store (i := 1) rfl k (.int .i64 x)
        rw [ints_set, flTo_step hkM HSK.out] at st6
        have S6 := Lib.hid st6
        have lI : (0 : Int) < (l : Int) := by omega
        clear own bel hbc st5 st6 hu
        go_wp2
        go_roundw
        case rel => exact ⟨k + 1, by omega, by go_num, S6.out⟩
        case measure => simp [intOf]; omega
      · obtain rfl : k = M := by omega
        rw [flTo_all HSL.out] at st
        have S3 := Lib.hid st
        clear st
        go_wp2
        go_ret2
        exact ⟨_, k, by rw [HSL.out]; rfl, by rw [HSL.out]; exact S3.out.own (i := 1) rfl, S3.out.below⟩
end Go.Proofs.Ytckmmgepoccopaa
