/- IsomorphismOf, AreIsomorphic, AutomorphismTo, AutomorphismsOf, CountAutomorphisms: impl's and the spec's. -/
import Derived.Test.YtmgoaabeopnopaaL19
import Derived.Test.YtmgoaabeopnopaaL27
import Derived.Lib.SliceRun
namespace Go.Proofs.Ytmgoaabeopnopaa
open Go.RowKit

set_option maxHeartbeats 3200000 in
set_option maxRecDepth 8000 in
theorem iCountAutomorphisms_any {A : Option Addr} {c N : Nat} {xss : List (List Int)} (w : World) (hx : xss.length = N) (ha : RdSS w A xss) (hN : N ≤ 1048576) (hr : ∀ xs ∈ xss, (xs.length : Int) ≤ 1048576) :
    Calls Try.prog 59 #[.agg #[.slice A N c]] w (fun e w' => e = .returned (.tuple #[.int .i64 (((auR xss).length : Int)), .int .i64 (auC xss)]) ∧ Below w.heap.size w w') := by
  have HX := Lib.hid hx
  have HA := Lib.hid ha
  have HR := Lib.hid hr
  have st0 := (St.start w).addBlk #[.slice A N c] 27
  have S0 := Lib.hid st0
  have x0 := (st0.blk (i := 0) rfl).cell (i := 0) rfl
  clear st0
  cases ho : okMan xss
  · have h1 : auR xss = [] := by simp [auR, ho]
    have h2 : auC xss = 1 := by simp [auC, ho]
    rw [h1, h2]
    have HO := Lib.hid ho
    clear hx ha hr ho h1 h2
    go_enter Try.func59, Try.ntmps59
    go_wp2_with fail
    refine (iMan_any _ HX.out (HA.out.keep S0.out.below) hN HR.out).mono ?_
    rintro e w1 ⟨rfl, bel⟩
    rw [HO.out]
    have S1 := Lib.hid (S0.out.go bel)
    have x1 := (S1.out.blk (i := 0) rfl).cell (i := 0) rfl
    clear bel x0
    clear x1
    go_wp2
    go_ret2
    exact ⟨rfl, S1.out.below⟩
  · have h1 : auR xss = autL xss := by simp [auR, ho]
    have h2 : auC xss = 0 := by simp [auC, ho]
    rw [h1, h2]
    have HO := Lib.hid ho
    clear hx ha hr ho h1 h2
    go_enter Try.func59, Try.ntmps59
    go_wp2_with fail
    refine (iMan_any _ HX.out (HA.out.keep S0.out.below) hN HR.out).mono ?_
    rintro e w1 ⟨rfl, bel⟩
    rw [HO.out]
    have S1 := Lib.hid (S0.out.go bel)
    have x1 := (S1.out.blk (i := 0) rfl).cell (i := 0) rfl
    clear bel x0
    go_wp2_with fail
    refine (iauts_any _ HO.out HX.out (HA.out.keep S1.out.below)).mono ?_
    rintro e w2 ⟨A2, m, c2, rfl, hm, own, bel⟩
    have S2 := Lib.hid (S1.out.go bel)
    have OWN := Lib.hid (ownSS_wide own S1.out.lo (Nat.le_refl _))
    have HM := Lib.hid hm
    clear bel x1 own hm
    go_wp2
    go_ret2
    exact ⟨by rw [HM.out]; rfl, S2.out.below⟩

end Go.Proofs.Ytmgoaabeopnopaa
