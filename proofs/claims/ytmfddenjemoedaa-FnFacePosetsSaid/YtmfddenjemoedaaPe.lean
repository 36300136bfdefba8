/- IsPoset of the model; ElementCounts of both. -/
import Derived.Test.YtmfddenjemoedaaPc
import Derived.Test.YtmfddenjemoedaaL11
namespace Go.Proofs.Ytmfddenjemoedaa
open Go.RowKit

open Classical in
/-- The numbers of elements of the ranks. -/
noncomputable def ecR (R : Int) (xs : List Int) (bss : List (List Int)) : List Int := if posB R xs bss = true then cntsL xs R.toNat else []
noncomputable def ecC (R : Int) (xs : List Int) (bss : List (List Int)) : Int := if posB R xs bss = true then 0 else 1
theorem ecR_le (R : Int) (xs : List Int) (bss : List (List Int)) : (ecR R xs bss).length ≤ 1048576 := by
  unfold ecR
  split
  · rename_i h
    have := (pB_iff.1 h).ranks.r5
    rw [cntsL_len]
    omega
  · simp

set_option maxHeartbeats 1600000 in
theorem iElementCounts_any {R : Int} {A B : Option Addr} {N c M d : Nat} {xs : List Int} {bss : List (List Int)} (w : World) (hx : xs.length = N) (ha : Rd w A (ints xs)) (hy : bss.length = M) (hb : RdSS w B bss) (hN : N ≤ 1048576) (hM : M ≤ 1048576) (hr : ∀ xs ∈ bss, (xs.length : Int) ≤ 1048576) :
    Calls Try.prog 41 #[.agg #[.int .i64 R, .slice A N c, .slice B M d]] w (RetS w (ecR R xs bss) (ecC R xs bss)) := by
  have HX := Lib.hid hx
  have HA := Lib.hid ha
  have HY := Lib.hid hy
  have HB := Lib.hid hb
  have HR := Lib.hid hr
  have BX0 := Lib.hid (Bp.start w #[.int .i64 R, .slice A N c, .slice B M d] 62)
  have q0 := BX0.out.cell0
  have q1 := BX0.out.cell1
  have q2 := BX0.out.cell2
  cases ho : posB R xs bss
  · have h1 : ecR R xs bss = [] := by simp [ecR, ho]
    have h2 : ecC R xs bss = 1 := by simp [ecC, ho]
    rw [h1, h2]
    have HO := Lib.hid ho
    clear hx ha hy hb hr ho h1 h2
    go_enter Try.func41, Try.ntmps41
    go_wp2_with fail
    refine (iPos_any _ HX.out (HA.out.keep BX0.out.below) HY.out (HB.out.keep BX0.out.below) hN hM HR.out).mono ?_
    rintro e w1 ⟨rfl, bel⟩
    rw [HO.out]
    have BX1 := Lib.hid (BX0.out.go bel)
    clear bel q0 q1 q2
    go_wp2
    go_ret2
    exact ⟨none, 0, rfl, World.ownsRow_nil _ _ _ _, BX1.out.below⟩
  · have ok := pB_iff.1 ho
    have hr1 := ok.ranks.r1
    have hr5 := ok.ranks.r5
    obtain ⟨q, rfl⟩ := Int.eq_ofNat_of_zero_le (show 0 ≤ R by omega)
    have h1 : ecR (q : Int) xs bss = cntsL xs q := by simp [ecR, ho]
    have h2 : ecC (q : Int) xs bss = 0 := by simp [ecC, ho]
    rw [h1, h2]
    have HO := Lib.hid ho
    have RK := Lib.hid ok.ranks.rk
    have hN5 := ok.ranks.n
    rw [hx] at hN5
    have hmk := run_make_row' (P := Try.prog) 24 2 (.int .i64 0) 8 Try.underlying24 Try.info2 rfl .i64 .i64 q (by omega) (by omega)
    clear hx ha hy hb hr ho h1 h2 ok
    go_enter Try.func41, Try.ntmps41
    go_wp2_with fail
    refine (iPos_any _ HX.out (HA.out.keep BX0.out.below) HY.out (HB.out.keep BX0.out.below) hN hM HR.out).mono ?_
    rintro e w1 ⟨rfl, bel⟩
    rw [HO.out]
    have BX1 := Lib.hid (BX0.out.go bel)
    have OWN0 := Lib.hid (make_own w1 (.int .i64 0) q 2 (by unfold maxLen; omega))
    clear bel q0 q1 q2
    have q0 := BX1.out.cell0
    have q1 := BX1.out.cell1
    have hz1 := BX1.out.size
    go_wp2
    clear hmk q0 q1
    go_loopw [16] (fun v wr => ∃ k : Nat, k ≤ N ∧ v = .int .i64 k ∧ wr.ownsRow w1.heap.size 2 1 (.slice (some ⟨w1.heap.size, 0, none⟩) q q) q (ints (cntsL (xs.take k) q)) ∧ Below w1.heap.size w1 wr) (fun v _ => N - (intOf v).toNat)
    case atStart => exact ⟨0, Nat.zero_le _, rfl, by rw [List.take_zero, cntsL_nil]; simpa using OWN0.out, below1 _ _⟩
    case round =>
      obtain ⟨k, hk, rfl, own1, bel1⟩ := hrel
      have O1 := Lib.hid own1
      have B1 := Lib.hid bel1
      clear own1 bel1
      by_cases hlt : k < N
      · obtain ⟨b, o, x, rfl, hg, hc⟩ := (HA.out.keep (BX1.out.go B1.out).below).int (k := k) (by rw [HX.out]; exact hlt)
        have hxr := RK.out k x hg
        obtain ⟨j, rfl⟩ := Int.eq_ofNat_of_zero_le hxr.1
        have hjq : j < q := by omega
        have hcs := own_cell O1.out (show (ints (cntsL (xs.take k) q))[j]? = some (.int .i64 (((xs.take k).count (j : Int) : Nat) : Int)) by simp [cntsL_at hjq])
        have hsu := cntsL_succ hg hjq
        have hcb : (xs.take k).count (j : Int) ≤ N := Nat.le_trans List.count_le_length (by simp; omega)
        obtain ⟨cnt, hcnt⟩ : ∃ cnt : Nat, (xs.take k).count (j : Int) = cnt := ⟨_, rfl⟩
        rw [hcnt] at hcs hsu hcb
        have hfr := O1.out.frozenAt j
        have hw : IntKind.i64.wrap ((cnt : Int) + 1) = (cnt : Int) + 1 := IntWalk.i64_in _ (by omega)
        have hst := O1.out.stored j (.int .i64 ((cnt : Int) + 1))
        have O2 := Lib.hid (by have h1 := hst.1; rw [ints_set, hsu] at h1; exact h1)
        have B2 := Lib.hid (B1.out.setCell (p := ⟨w1.heap.size, j, none⟩) (Nat.le_refl _) (.int .i64 ((cnt : Int) + 1)))
        clear hg hxr hsu hst hcnt
        go_wp2
        go_roundw
        case rel => exact ⟨k + 1, by omega, by go_num, O2.out, B2.out⟩
        case measure => simp [intOf]; omega
      · have h := O1.out
        rw [List.take_of_length_le (by rw [HX.out]; omega)] at h
        have O3 := Lib.hid h
        have HLQ := Lib.hid (cntsL_len (l := xs) (m := q))
        clear h O1
        go_wp2
        go_ret2
        refine ⟨some ⟨w1.heap.size, 0, none⟩, q, by rw [HLQ.out]; rfl, ?_, (BX1.out.go B1.out).below⟩
        have h := O3.out
        rw [HLQ.out]
        exact own_base h (by omega)

end Go.Proofs.Ytmfddenjemoedaa
