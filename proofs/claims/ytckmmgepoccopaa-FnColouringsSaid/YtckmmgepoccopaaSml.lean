/- spec.SmallestPolygons. -/
import Derived.Test.YtckmmgepoccopaaSef
import Derived.Test.YtckmmgepoccopaaL11
import Derived.Test.YtckmmgepoccopaaStp
namespace Go.Proofs.Ytckmmgepoccopaa
open Go.RowKit

noncomputable def spL (xss : List (List Int)) (n M : Nat) : List Int := (List.range M).map fun (i : Nat) => (polL ((xss.drop i).take 2) n).headD 0
noncomputable def spR (xss : List (List Int)) : List Int := if okMan xss = true then spL xss (flN xss) (xss.length - 1) else []
noncomputable def spC (xss : List (List Int)) : Int := if okMan xss = true then 0 else 1
theorem spR_le (xss : List (List Int)) : (spR xss).length ≤ 1048576 := by
  unfold spR
  split
  · rename_i h
    have := (okMan_iff.1 h).r5
    simp [spL]
    omega
  · simp
theorem polL_head {yss : List (List Int)} {n : Nat} (hn : 0 < n) : (polL yss n)[0]? = some ((polL yss n).headD 0) := by
  have hm : (((orbL yss n ((0 : Nat) : Int)).length : Int) / 2) ∈ polL yss n := by
    unfold polL
    rw [(sortL_perm _).mem_iff, ddTo_mem]
    exact ⟨0, hn, rfl⟩
  cases h : polL yss n with
  | nil => rw [h] at hm; simp at hm
  | cons a l => rfl
theorem spL_succ {xss : List (List Int)} {n M k : Nat} (h : k < M) : (spL xss n M).take (k + 1) = (spL xss n M).take k ++ [(polL ((xss.drop k).take 2) n).headD 0] := by
  rw [List.take_add_one]
  simp [spL, h]

set_option maxHeartbeats 1600000 in
set_option maxRecDepth 8000 in
theorem sSmallestPolygons_any {A : Option Addr} {c N : Nat} {xss : List (List Int)} (w : World) (hx : xss.length = N) (ha : RdSS w A xss) (hN : N ≤ 1048576) (hr : ∀ xs ∈ xss, (xs.length : Int) ≤ 1048576) (hcap : N ≤ c) (hc63 : c ≤ 9223372036854775807) :
    Calls Try.prog 69 #[.agg #[.slice A N c]] w (RetS w (spR xss) (spC xss)) := by
  have HX := Lib.hid hx
  have HA := Lib.hid ha
  have HR := Lib.hid hr
  have st0 := (St.start w).addBlk #[.slice A N c] 26
  have S0 := Lib.hid st0
  have hbc := (st0.blk (i := 0) rfl).cell (i := 0) rfl
  clear st0
  cases ho : okMan xss
  · have h1 : spR xss = [] := by simp [spR, ho]
    have h2 : spC xss = 1 := by simp [spC, ho]
    rw [h1, h2]
    have HO := Lib.hid ho
    clear hx ha hr ho h1 h2
    go_enter Try.func69, Try.ntmps69
    go_wp2_with fail
    refine (sIs_any _ HX.out (HA.out.keep S0.out.below) hN HR.out).mono ?_
    rintro e w1 ⟨rfl, bel⟩
    rw [HO.out]
    have S1 := Lib.hid (S0.out.go bel)
    clear bel hbc
    go_wp2
    go_ret2
    exact ⟨none, 0, rfl, World.ownsRow_nil _ _ _ _, S1.out.below⟩
  · have hman := okMan_iff.1 ho
    have hsys := hman.sys
    have hn2 := hman.f2
    have hN5 := hman.r5
    have hpos := hman.pos hx
    rw [hx] at hN5
    obtain ⟨b, o, A0, c0, rfl, hc0⟩ := man_row0 hman ha
    obtain ⟨n, hn⟩ : ∃ n, flN xss = n := ⟨_, rfl⟩
    rw [hn] at hc0 hsys hn2
    obtain ⟨M, hNM⟩ : ∃ M, N = M + 1 := ⟨N - 1, by omega⟩
    have h1 : spR xss = spL xss n M := by simp [spR, ho, hn, hx, hNM]
    have hsl : (spL xss n M).length = M := by simp [spL]
    have h2 : spC xss = 0 := by simp [spC, ho]
    rw [h1, h2]
    have HC0 := Lib.hid hc0
    have HS := Lib.hid hsys
    have HO := Lib.hid ho
    have HNM := Lib.hid hNM
    have HSL := Lib.hid hsl
    have hM4 : M ≤ 4 := by omega
    clear hx ha hr ho hman hn hc0 hsys h1 h2 hNM hsl
    go_enter Try.func69, Try.ntmps69
    go_wp2_with fail
    refine (sIs_any _ HX.out (HA.out.keep S0.out.below) hN HR.out).mono ?_
    rintro e w1 ⟨rfl, bel⟩
    rw [HO.out]
    have S1 := Lib.hid (S0.out.go bel)
    clear bel hbc
    have hbc := (S1.out.blk (i := 0) rfl).cell (i := 0) rfl
    go_wp2_with fail
    refine (stype_any _ HX.out (HA.out.keep S1.out.below) HS.out (cell_be HC0.out S1.out.below) HNM.out hcap hc63 (by omega)).mono ?_
    rintro e w2 ⟨A2, c2, rfl, own2, bel2⟩
    obtain ⟨vals, st⟩ := S1.out.addRows bel2 own2 (Nat.le_refl _) (Nat.le_refl _)
    have S2 := Lib.hid (st.addMade 2)
    clear st own2 bel2 hbc
    go_wp2
    go_loopw [5, 6] (fun u v wr => ∃ (k c6 : Nat) (A6 : Option Addr), k ≤ M ∧ u = .slice A6 k c6 ∧ v = .int .i64 k ∧ St w wr [.blk w.heap.size #[.slice (some ⟨b, o, none⟩) N c] 26, .rows 2 28 A2 M c2 vals (tyL xss n M), .own 2 A6 k c6 (ints ((spL xss n M).take k))]) (fun _ v _ => M - (intOf v).toNat)
    case atStart => exact ⟨0, 0, _, Nat.zero_le _, rfl, rfl, S2.out⟩
    case round =>
      obtain ⟨k, c6, A6, hk, rfl, rfl, st⟩ := hrel
      clear S2
      by_cases hkM : k < M
      · have hlo := st.lo
        have hrow : (tyL xss n M)[k]? = some (polL ((xss.drop k).take 2) n) := by simp [tyL, hkM]
        obtain ⟨A3, c3, hv, ow⟩ := st.rowAt (i := 1) rfl hrow
        obtain ⟨gA, rfl⟩ := own_shape (st.rows (i := 1) rfl) (show 0 < M by omega)
        have hc1 := own_cell (st.rows (i := 1) rfl) hv
        have hph := polL_head (yss := (xss.drop k).take 2) (n := n) (by omega)
        have hl0 : 0 < (polL ((xss.drop k).take 2) n).length := (List.getElem?_eq_some_iff.1 hph).1
        obtain ⟨l, hl⟩ : ∃ l, (polL ((xss.drop k).take 2) n).length = l := ⟨_, rfl⟩
        obtain ⟨x, hxx⟩ : ∃ x, (polL ((xss.drop k).take 2) n).headD 0 = x := ⟨_, rfl⟩
        rw [hl] at hc1 ow hl0
        rw [hxx] at hph
        obtain ⟨g3, rfl⟩ := own_shape ow hl0
        have hc2 := own_cell ow (show (ints (polL ((xss.drop k).take 2) n))[0]? = some (.int .i64 x) by simp [hph])
        have HSU := Lib.hid (show (spL xss n M).take (k + 1) = (spL xss n M).take k ++ [x] by rw [spL_succ hkM, hxx])
        have S3 := Lib.hid st
        have kI : (k : Int) < (M : Int) := by omega
        clear st hrow hv ow hph hl hxx
        go_wp2_with (at_builtin; refine wpList_push_at _ rfl _ _ 28 2 rfl Try.underlying28 (.int .i64 0) 8 Try.info2 rfl w.heap.size _ _ _ rfl (S3.out.own (i := 2) rfl) _ rfl rfl (by omega) (by omega) hlo ?_)
        intro A7 c7 w7 own7 gr7 hat7
        have own8 : w7.ownsRow w.heap.size 2 1 (.slice A7 (k + 1) c7) (k + 1) (ints ((spL xss n M).take (k + 1))) := by
          rw [HSU.out]
          simpa [ints] using own7
        have S7 := Lib.hid (S3.out.push (i := 2) rfl own8 gr7 hat7)
        clear own7 own8 gr7 hat7
        go_wp2
        go_roundw
        case rel => exact ⟨k + 1, _, _, by omega, rfl, by go_num, S7.out⟩
        case measure => simp [intOf]; omega
      · obtain rfl : k = M := by omega
        rw [List.take_of_length_le (l := spL xss n k) (by rw [HSL.out]; exact Nat.le_refl _)] at st
        have S3 := Lib.hid st
        clear st
        go_wp2
        go_ret2
        exact ⟨A6, c6, by rw [HSL.out]; rfl, by rw [HSL.out]; exact S3.out.own (i := 2) rfl, S3.out.below⟩
end Go.Proofs.Ytckmmgepoccopaa
