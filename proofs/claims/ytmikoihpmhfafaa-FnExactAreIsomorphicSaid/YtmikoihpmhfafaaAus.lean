/- spec.l06Fits, l06First and l06All. -/
import Derived.Test.YtmikoihpmhfafaaHms
import Derived.Test.YtmikoihpmhfafaaAui
namespace Go.Proofs.Ytmikoihpmhfafaa
open Go.RowKit

set_option maxHeartbeats 6400000 in
set_option maxRecDepth 8000 in
theorem sfits_any {b o b1 o1 c c1 N k n n1 c0 c2 : Nat} {A0 A2 : Option Addr} (w : World) (hpos : 0 < N) (hpos2 : 0 < k) (hc0 : w.cell? ⟨b, o, none⟩ = some (.slice A0 n c0)) (hc2 : w.cell? ⟨b1, o1, none⟩ = some (.slice A2 n1 c2)) {r : Bool} (hr : decide (N = k ∧ n = n1) = r) :
    Calls Try.prog 184 #[.agg #[.slice (some ⟨b, o, none⟩) N c], .agg #[.slice (some ⟨b1, o1, none⟩) k c1]] w fun e w' => e = .returned (.bool r) ∧ Below w.heap.size w w' := by
  have HC0 := Lib.hid hc0
  have HC2 := Lib.hid hc2
  have HR := Lib.hid hr
  have st0 := ((St.start w).addBlk #[.slice (some ⟨b, o, none⟩) N c] 26).addBlk #[.slice (some ⟨b1, o1, none⟩) k c1] 26
  simp at st0
  have S := Lib.hid (st0.go (below_drewN (Below.refl _ _) 1))
  have x0 := (st0.blk (i := 0) rfl).cell (i := 0) rfl
  have y0 := (st0.blk (i := 1) rfl).cell (i := 0) rfl
  clear st0 hc0 hc2 hr
  go_enter Try.func184, Try.ntmps184
  go_wp2
  by_cases hNk : N = k
  · subst hNk
    go_region_law ((first
      | (go_simp; go_at_call 129
         first
         | refine (sFlags_bel _ hpos2 (cell_be HC2.out Sc.out.below)).mono ?_
           rintro e wq ⟨rfl, belq⟩
           have Sd := Lib.hid (Sc.out.go belq)
           have xSd := (Sd.out.blk (i := 0) rfl).cell (i := 0) rfl
           have ySd := (Sd.out.blk (i := 1) rfl).cell (i := 0) rfl
         | refine (sFlags_bel _ hpos (cell_be HC0.out S.out.below)).mono ?_
           rintro e wq ⟨rfl, belq⟩
           have Sc := Lib.hid (S.out.go belq)
           have xSc := (Sc.out.blk (i := 0) rfl).cell (i := 0) rfl
           have ySc := (Sc.out.blk (i := 1) rfl).cell (i := 0) rfl
         clear belq)))
    all_goals
      go_wp2
      go_ret
      exact ⟨ret_bool (by rw [← HR.out, Bool.eq_iff_iff]; simp; omega), Sd.out.below⟩
  · have hNI : ¬ ((N : Int) = (k : Int)) := by omega
    have hrf : r = false := by rw [← HR.out]; simp [hNk]
    subst hrf
    go_region_law (fail)
    all_goals
      go_wp2
      go_ret
      exact ⟨rfl, S.out.below⟩

end Go.Proofs.Ytmikoihpmhfafaa
