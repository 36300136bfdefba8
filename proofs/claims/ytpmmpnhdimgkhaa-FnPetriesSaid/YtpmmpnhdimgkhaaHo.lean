/- spec.HoleOf. -/
import Derived.Test.YtpmmpnhdimgkhaaL15
namespace Go.Proofs.Ytpmmpnhdimgkhaa
open Go.RowKit

def hwL : Nat → List Int
  | 0 => [1]
  | t + 1 => hwL t ++ [2, 1]
def holW (k : Nat) : List (List Int) := [[0], hwL (k - 1), [2]]
theorem hwL_len : ∀ t, (hwL t).length = 1 + 2 * t
  | 0 => rfl
  | t + 1 => by simp [hwL, hwL_len t]; omega
theorem hwL_in : ∀ (t : Nat) (x : Int), x ∈ hwL t → 1 ≤ x ∧ x ≤ 2
  | 0, x, h => by simp [hwL] at h; omega
  | t + 1, x, h => by
    rcases List.mem_append.1 h with h | h
    · exact hwL_in t x h
    · simp at h; omega
theorem holW_ok {xss : List (List Int)} {k : Nat} (hk : k ≤ 20) (hx : xss.length = 3) : ∀ wd ∈ holW k, wordOk xss wd = true ∧ (wd.length : Int) ≤ 1048576 := fun wd hwd => by
  unfold holW at hwd
  simp only [List.mem_cons, List.not_mem_nil, or_false] at hwd
  rcases hwd with rfl | rfl | rfl
  · exact ⟨decide_eq_true fun x hx' => by simp at hx'; omega, by simp⟩
  · exact ⟨decide_eq_true fun x hx' => by have := hwL_in _ x hx'; omega, by rw [hwL_len]; omega⟩
  · exact ⟨decide_eq_true fun x hx' => by simp at hx'; omega, by simp⟩
noncomputable def hoR (xss : List (List Int)) (k : Int) : List (List Int) := if okMan xss = true ∧ 1 ≤ k ∧ k ≤ 20 then thR xss (flN xss) (holW k.toNat) else []
noncomputable def hoC (xss : List (List Int)) (k : Int) : Int := if okMan xss = true then (if 1 ≤ k ∧ k ≤ 20 then thC xss (flN xss) (holW k.toNat) else 2) else 1

set_option maxHeartbeats 3200000 in
set_option maxRecDepth 8000 in
theorem sHoleOf_any {A : Option Addr} {c N : Nat} {xss : List (List Int)} (k : Int) (w : World) (hx : xss.length = N) (ha : RdSS w A xss) (hN : N ≤ 1048576) (hr : ∀ xs ∈ xss, (xs.length : Int) ≤ 1048576) :
    Calls Try.prog 66 #[.agg #[.slice A N c], .int .i64 k] w (RetMC w (hoR xss k) (hoC xss k)) := by
  have HX := Lib.hid hx
  have HA := Lib.hid ha
  have HR := Lib.hid hr
  have st0 := ((St.start w).addBlk #[.slice A N c] 42).addBlk #[.slice none 0 0] 42
  simp at st0
  have S0 := Lib.hid st0
  have hbc := (st0.blk (i := 0) rfl).cell (i := 0) rfl
  clear st0
  cases ho : okMan xss
  · have h1 : hoR xss k = [] := by simp [hoR, ho]
    have h2 : hoC xss k = 1 := by simp [hoC, ho]
    rw [h1, h2]
    have HO := Lib.hid ho
    clear hx ha hr ho h1 h2
    go_enter Try.func66, Try.ntmps66
    go_wp2_with fail
    refine (sIs_any _ HX.out (HA.out.keep S0.out.below) hN HR.out).mono ?_
    rintro e w1 ⟨rfl, bel⟩
    rw [HO.out]
    have st1 := S0.out.go bel
    have z0 := (st1.blk (i := 1) rfl).cell (i := 0) rfl
    have f0 := (st1.blk (i := 1) rfl).free 0
    have S1 := Lib.hid st1
    clear bel hbc st1
    go_wp2
    have st4 := S1.out.blkSet (i := 1) rfl 0 (.slice none 0 0)
    have y0 := (st4.blk (i := 1) rfl).cell (i := 0) rfl
    refine bodyPost_ret (v := .tuple #[.agg #[.slice none 0 0], .int .i64 1]) (by simp [results, Try.results66, go_sem, y0]) rfl ⟨none, 0, rfl, ownSS_nil _ _ _ _, st4.below⟩
  · have hman := okMan_iff.1 ho
    have hsys := hman.sys
    have hn2 := hman.f2
    have hpos := hman.pos hx
    obtain ⟨b, o, A0, c0, rfl, hc0⟩ := man_row0 hman ha
    obtain ⟨n, hn⟩ : ∃ n, flN xss = n := ⟨_, rfl⟩
    rw [hn] at hc0 hsys hn2
    have HC0 := Lib.hid hc0
    have HS := Lib.hid hsys
    have HO := Lib.hid ho
    by_cases hk : 1 ≤ k ∧ k ≤ 20
    · obtain ⟨k, rfl⟩ := Int.eq_ofNat_of_zero_le (show 0 ≤ k by omega)
      have hk20 : k ≤ 20 := by omega
      have hk1 : 1 ≤ k := by omega
      have h1 : hoR xss k = thR xss n (holW k) := by rw [hoR, if_pos ⟨ho, hk⟩, hn, Int.toNat_natCast]
      have h2 : hoC xss k = thC xss n (holW k) := by rw [hoC, if_pos ho, if_pos hk, hn, Int.toNat_natCast]
      rw [h1, h2]
      obtain ⟨L, hL⟩ : ∃ L, thR xss n (holW k) = L := ⟨_, rfl⟩
      obtain ⟨C, hC⟩ : ∃ C, thC xss n (holW k) = C := ⟨_, rfl⟩
      rw [hL, hC]
      have HLL := Lib.hid hL
      have HCC := Lib.hid hC
      have HIN := Lib.hid (show decide ((1 : Int) ≤ (k : Int) ∧ (k : Int) ≤ 20) = true from decide_eq_true (by omega))
      have HWO := Lib.hid (show N = 3 → ∀ wd ∈ holW k, wordOk xss wd = true ∧ (wd.length : Int) ≤ 1048576 from fun h3 => holW_ok hk20 (by omega))
      clear hx ha hr ho hman hn hc0 hsys h1 h2 hL hC hk
      go_enter Try.func66, Try.ntmps66
      go_wp2_with fail
      refine (sIs_any _ HX.out (HA.out.keep S0.out.below) hN HR.out).mono ?_
      rintro e w1 ⟨rfl, bel⟩
      rw [HO.out]
      have S1 := Lib.hid (S0.out.go bel)
      clear bel hbc
      go_wp2_with fail
      refine (in_val _ HIN.out).mono ?_
      rintro e w2 ⟨rfl, bel⟩
      have S2 := Lib.hid ((S1.out.go bel).addLit1 (.int .i64 1) 2)
      clear bel S1
      go_wp2
      go_loopw [6, 7] (fun u v wr => ∃ (t c6 : Nat) (A6 : Option Addr), t + 1 ≤ k ∧ u = .slice A6 (1 + 2 * t) c6 ∧ v = .int .i64 ((t + 1 : Nat) : Int) ∧ St w wr [.blk w.heap.size #[.slice (some ⟨b, o, none⟩) N c] 42, .blk (w.heap.size + 1) #[.slice none 0 0] 42, .own 2 A6 (1 + 2 * t) c6 (ints (hwL t))]) (fun _ v _ => k - (intOf v).toNat)
      case atStart => exact ⟨0, 1, _, by omega, rfl, rfl, S2.out⟩
      case round =>
        obtain ⟨t, c6, A6, ht, rfl, rfl, st⟩ := hrel
        clear S2
        have hlo := st.lo
        have S3 := Lib.hid st
        by_cases htk : t + 1 < k
        · have tI : ((t + 1 : Nat) : Int) < (k : Int) := by omega
          have hus : ∀ (j : Nat) (u : Value), ([.int .i64 2, .int .i64 1] : List Value)[j]? = some u → (wr.alloc (.cells #[.int .i64 2, .int .i64 1] 2)).cell? ((⟨wr.heap.size, 0, none⟩ : Addr).add j) = some u := by
            intro j u hj
            match j, hj with
            | 0, hj => injection hj with hj; subst hj; simp [Addr.add]
            | 1, hj => injection hj with hj; subst hj; simp [Addr.add]
          have hone : ∀ u ∈ ([.int .i64 2, .int .i64 1] : List Value), u.oneCell' = true := by
            intro u hu
            simp at hu
            rcases hu with rfl | rfl <;> rfl
          have HUS := Lib.hid hus
          have HONE := Lib.hid hone
          have HOWN := Lib.hid ((st.own (i := 2) rfl).alloc (.cells #[.int .i64 2, .int .i64 1] 2))
          have hlo2 : w.heap.size ≤ (wr.alloc (.cells #[.int .i64 2, .int .i64 1] 2)).heap.size := by simp; omega
          clear st hus hone
          go_wp2_with (at_builtin; refine wpList_cat_at _ rfl (.tmp 22) (.tmp 23) 33 2 rfl Try.underlying33 (.int .i64 0) 8 Try.info2 rfl w.heap.size (.slice A6 (1 + 2 * t) c6) _ _ rfl HOWN.out ⟨wr.heap.size, 0, none⟩ 2 2 [.int .i64 2, .int .i64 1] rfl rfl HUS.out HONE.out (by omega) (by omega) hlo2 ?_)
          intro A7 c7 w7 own7 gr7 hat7
          have S7 := Lib.hid (show St w w7 [.blk w.heap.size #[.slice (some ⟨b, o, none⟩) N c] 42, .blk (w.heap.size + 1) #[.slice none 0 0] 42, .own 2 A7 (1 + 2 * (t + 1)) c7 (ints (hwL (t + 1)))] from by
            have e1 : 1 + 2 * (t + 1) = 1 + 2 * t + 2 := by omega
            have e2 : ints (hwL (t + 1)) = ints (hwL t) ++ [.int .i64 2, .int .i64 1] := by simp [hwL]
            rw [e1, e2]
            exact S3.out.turn (i := 2) rfl (below1 _ _) own7 gr7 (hat_of (by simpa using hat7)))
          clear own7 gr7 hat7
          go_wp2
          go_roundw
          case rel => exact ⟨t + 1, c7, A7, by omega, by rw [show 1 + 2 * (t + 1) = 1 + 2 * t + 2 by omega], by go_num, S7.out⟩
          case measure => simp [intOf]; omega
        · obtain rfl : k = t + 1 := by omega
          have hbc := (st.blk (i := 0) rfl).cell (i := 0) rfl
          have st2 := ((st.addBlk #[.int .i64 0] 2).addBlk #[.int .i64 2] 2).addBlk #[.slice (some ⟨wr.heap.size, 0, none⟩) 1 1, .slice A6 (1 + 2 * t) c6, .slice (some ⟨wr.heap.size + 1, 0, none⟩) 1 1] 33
          simp at st2
          have HRD := Lib.hid (rdSS3 (a := [0]) (b := hwL t) (c := [2]) (st2.blk (i := 5) rfl) (rd_blk (st2.blk (i := 3) rfl)) (own_rd (st2.own (i := 2) rfl)) (rd_blk (st2.blk (i := 4) rfl)) rfl (hwL_len t) rfl (by omega))
          have S4 := Lib.hid st2
          have tI : ¬ ((t + 1 : Nat) : Int) < ((t + 1 : Nat) : Int) := by omega
          clear st st2 S3
          go_wp2_with fail
          refine (sthree_any _ (wss := holW (t + 1)) HX.out (HA.out.keep S4.out.below) HS.out (cell_be HC0.out S4.out.below) hpos (by omega) (M := 3) rfl HRD.out (by decide) (by decide) HWO.out).mono ?_
          rintro e w5 ⟨A2, c2, rfl, own2, bel2⟩
          rw [HLL.out] at own2 ⊢
          rw [HCC.out]
          obtain ⟨vals, st⟩ := S4.out.addRows bel2 own2 (Nat.le_refl _) (Nat.le_refl _)
          have z0 := (st.blk (i := 1) rfl).cell (i := 0) rfl
          have f0 := (st.blk (i := 1) rfl).free 0
          have S5 := Lib.hid st
          clear st own2 bel2 hbc
          go_wp2
          have st4 := S5.out.blkSet (i := 1) rfl 0 (.slice A2 L.length c2)
          have y0 := (st4.blk (i := 1) rfl).cell (i := 0) rfl
          refine bodyPost_ret (v := .tuple #[.agg #[.slice A2 L.length c2], .int .i64 C]) (by simp [results, Try.results66, go_sem, y0]) rfl ⟨A2, c2, rfl, st4.sep.ownSS (i := 6) rfl, st4.below⟩
    · have h1 : hoR xss k = [] := by rw [hoR, if_neg (fun h => hk h.2)]
      have h2 : hoC xss k = 2 := by simp only [hoC, ho, if_true]; rw [if_neg hk]
      rw [h1, h2]
      have HIN := Lib.hid (show decide ((1 : Int) ≤ k ∧ k ≤ 20) = false from decide_eq_false hk)
      clear hx ha hr ho hman hn hc0 hsys h1 h2 hk
      go_enter Try.func66, Try.ntmps66
      go_wp2_with fail
      refine (sIs_any _ HX.out (HA.out.keep S0.out.below) hN HR.out).mono ?_
      rintro e w1 ⟨rfl, bel⟩
      rw [HO.out]
      have S1 := Lib.hid (S0.out.go bel)
      clear bel hbc
      go_wp2_with fail
      refine (in_val _ HIN.out).mono ?_
      rintro e w2 ⟨rfl, bel⟩
      have st1 := S1.out.go bel
      have z0 := (st1.blk (i := 1) rfl).cell (i := 0) rfl
      have f0 := (st1.blk (i := 1) rfl).free 0
      have S2 := Lib.hid st1
      clear bel st1 S1
      go_wp2
      have st4 := S2.out.blkSet (i := 1) rfl 0 (.slice none 0 0)
      have y0 := (st4.blk (i := 1) rfl).cell (i := 0) rfl
      refine bodyPost_ret (v := .tuple #[.agg #[.slice none 0 0], .int .i64 2]) (by simp [results, Try.results66, go_sem, y0]) rfl ⟨none, 0, rfl, ownSS_nil _ _ _ _, st4.below⟩
end Go.Proofs.Ytpmmpnhdimgkhaa
