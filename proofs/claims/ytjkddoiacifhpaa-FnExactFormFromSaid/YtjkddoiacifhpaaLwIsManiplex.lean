import Derived.Test.YtjkddoiacifhpaaWm5
import Derived.Test.YtjkddoiacifhpaaL1
namespace Go.Proofs.Ytjkddoiacifhpaa
open Go.RowKit

theorem sIsM_any {A : Option Addr} {c N : Nat} {xss : List (List Int)} (w : World) (hx : xss.length = N) (ha : RdSS w A xss) (hN : N ≤ 1048576) (hr : ∀ xs ∈ xss, (xs.length : Int) ≤ 1048576) :
    Calls Try.prog 80 #[.agg #[.slice A N c]] w fun e w' => e = .returned (.bool (okMan xss)) ∧ Below w.heap.size w w' := by
  have HX := Lib.hid hx
  have HA := Lib.hid ha
  have HR := Lib.hid hr
  clear hx ha hr
  go_enter Try.func80, Try.ntmps80
  go_wp2_with fail
  refine (sIs_any _ HX.out (HA.out.al _) hN HR.out).mono ?_
  rintro e w' ⟨rfl, bel⟩
  go_wp2
  go_ret
  exact ⟨rfl, (below1 w _).trans (bel.mono (by simp))⟩

set_option maxHeartbeats 3200000 in
theorem law_IsManiplex {A0 : Option Addr} {c0 : Nat} {x0 : List (List Int)} {n0 : Nat} (w : World) (hx0 : x0.length = n0) (ha0 : RdSS w A0 x0) (hm0 : n0 ≤ maxLen) :
    Calls Try.prog 11 #[.agg #[.slice A0 n0 c0]] w fun e w' => e = .returned (.bool true) ∧ Below w.heap.size w w' := by
  unfold maxLen at hm0
  have HX0 := Lib.hid hx0
  have HA0 := Lib.hid ha0
  clear hx0 ha0
  have BX0 := Lib.hid (Bx.start w (.slice A0 n0 c0) 73)
  go_enter Try.func11, Try.ntmps11
  go_wp2_with fail
  refine (szM_any _ HX0.out (HA0.out.al _) hm0).mono ?_
  rintro e w1 ⟨r, rfl, g0, g1, g2, bel⟩
  have BX1 := Lib.hid (BX0.out.go bel)
  clear bel
  by_cases hneg : r < 0
  · clear g2
    go_wp2
    go_ret
    exact ⟨rfl, BX1.out.below⟩
  have hz := g2 (by omega)
  have hb0 : n0 ≤ 1048576 := by have := hz.1; rw [HX0.out] at this; omega
  have HR0 := Lib.hid hz.2
  have hbc := BX1.out.cell
  clear g2 hz
  go_wp2_with fail
  clear hbc
  refine (toM_any _ HX0.out (HA0.out.keep BX1.out.below) hb0 HR0.out).mono ?_
  rintro e w2 ⟨A2, c2, rfl, own, bel⟩
  have BX2 := Lib.hid (BX1.out.go bel)
  have O2 := Lib.hid own
  clear own bel BX1
  go_wp2_with fail
  refine (sIsM_any _ HX0.out (ownSS_rd O2.out) hb0 HR0.out).mono ?_
  rintro e w3 ⟨rfl, bel⟩
  have BX3 := Lib.hid (BX2.out.go bel)
  have hbc := BX3.out.cell
  clear bel O2 BX2
  go_wp2_with fail
  clear hbc
  refine (toM_any _ HX0.out (HA0.out.keep BX3.out.below) hb0 HR0.out).mono ?_
  rintro e w4 ⟨A4, c4, rfl, own, bel⟩
  have BX4 := Lib.hid (BX3.out.go bel)
  have O4 := Lib.hid own
  clear own bel BX3
  go_wp2_with fail
  refine (iMan_any _ HX0.out ((ownSS_rd O4.out).al _) hb0 HR0.out).mono ?_
  rintro e w5 ⟨rfl, bel⟩
  have BX5 := Lib.hid ((BX4.out.al _).go bel)
  have O5 := Lib.hid (ownSS_below (ownSS_below O4.out (below1 _ _) (Nat.le_refl _)) bel (by simp))
  have hbc := BX5.out.cell
  have hb5 := cell_be (Bx.start w4 (.slice A4 n0 c4) 51).cell bel
  have hne : (okMan x0 != okMan x0) = false := by simp
  clear bel O4 BX4
  go_wp2_with fail
  have HA5 := Lib.hid (HA0.out.keep BX5.out.below)
  have HO5 := Lib.hid (ownSS_rd O5.out)
  clear hne O5
  go_region_held3 (fun w' => Below w5.heap.size w5 w' ∧ w'.cell? ⟨w.heap.size, 0, none⟩ = some (.slice A0 n0 c0) ∧ w'.cell? ⟨w4.heap.size, 0, none⟩ = some (.slice A4 n0 c4)) (first | (exact ⟨below_drewN (Below.refl _ _) 1, hbc, hb5⟩) | (exact q))
    (first
      | (go_at_call 81
         refine (toM_any _ HX0.out (rd_s3 HA5.out (by assumption)) hb0 HR0.out).mono ?_
         rintro e w' ⟨A6, c6, rfl, own, bel⟩
         have q := s3_go (by assumption) bel)
      | (go_at_call 82
         refine (eqM_same _ HX0.out HX0.out (rd_s3 HO5.out (by assumption)) (ownSS_rd own) (by omega)).mono ?_
         rintro e w' ⟨rfl, bel⟩
         have q := s3_go (by assumption) bel))
  go_wp2
  go_ret
  exact ⟨rfl, BX5.out.below.trans (q.1.mono BX5.out.below.size)⟩

theorem walk_FnExactIsManiplex (a0 : Option Addr) (len0 cap0 : Nat) (z0 : List (List Int)) (w : World) (w0 : IsRows w a0 len0 z0) :
    Calls Try.prog 11 #[.agg #[.slice a0 len0 cap0]] w fun e w' => e = .returned (.bool true) ∧ Below w.heap.size w w' := by
  obtain ⟨hx0, ha0, hm0⟩ := w0
  exact law_IsManiplex w hx0 ha0 hm0
end Go.Proofs.Ytjkddoiacifhpaa
