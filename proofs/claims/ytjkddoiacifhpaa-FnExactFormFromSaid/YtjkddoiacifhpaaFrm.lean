import Derived.Test.YtjkddoiacifhpaaBx2
namespace Go.Proofs.Ytjkddoiacifhpaa
open Go.RowKit

theorem okP_orb {xss : List (List Int)} {n p : Nat} (hsys : okSys n xss = true) (hp : p < n) (hall : (orbL xss n p).length = n) : okP (orbL xss n p) = true := by
  have h := orb_passed hsys hp
  have h4 := (sys_parts hsys).2.1
  refine decide_eq_true ⟨by omega, fun x hx => ?_, h.2⟩
  rw [hall]
  exact h.1 x hx
/-- The form from a flag. -/
def frmL (xss : List (List Int)) (n p : Nat) : List (List Int) := renM xss (invL (orbL xss n p))
theorem inv_orb_len {xss : List (List Int)} {n p : Nat} (hall : (orbL xss n p).length = n) : (invL (orbL xss n p)).length = n := by rw [invL_len, hall]

set_option maxHeartbeats 800000 in
theorem snum_any {b o c N n p : Nat} {xss : List (List Int)} (w : World) (hx : xss.length = N) (ha : RdSS w (some ⟨b, o, none⟩) xss) (hN : N ≤ 1048576) (hsys : okSys n xss = true) (hp : p < n) (hall : (orbL xss n p).length = n) :
    Calls Try.prog 190 #[.agg #[.slice (some ⟨b, o, none⟩) N c], .int .i64 p] w (Ret1 w (invL (orbL xss n p))) := by
  have hn4 := (sys_parts hsys).2.1
  have OP := Lib.hid (okP_orb hsys hp hall)
  have HX := Lib.hid hx
  have HA := Lib.hid (ha.al (.cells #[.slice (some ⟨b, o, none⟩) N c] 51))
  have HS := Lib.hid hsys
  have HL := Lib.hid hall
  clear hx ha hsys hall
  go_enter Try.func190, Try.ntmps190
  go_wp2_with fail
  refine (sorb_any _ HX.out HA.out hN HS.out hp).mono ?_
  rintro e w1 ⟨A1, c1, rfl, own, bel⟩
  rw [HL.out] at own ⊢
  have OW := Lib.hid own
  have B1 := Lib.hid ((below1 w (.cells #[.slice (some ⟨b, o, none⟩) N c] 51)).trans (bel.mono (by simp)))
  clear own bel
  go_wp2_with fail
  refine (back_any _ HL.out (own_rd OW.out) (by omega) OP.out).mono ?_
  rintro e w2 ⟨A2, c2, rfl, own, bel⟩
  have OW2 := Lib.hid (own_base own B1.out.size)
  have B2 := Lib.hid (B1.out.trans (bel.mono B1.out.size))
  clear own bel
  go_wp2
  go_ret
  exact ⟨A2, c2, rfl, OW2.out, B2.out⟩

set_option maxHeartbeats 3200000 in
set_option maxRecDepth 8000 in
theorem sform_any {b o c N n p : Nat} {xss : List (List Int)} (w : World) (hx : xss.length = N) (ha : RdSS w (some ⟨b, o, none⟩) xss) (hN : N ≤ 1048576) (hsys : okSys n xss = true) (hp : p < n) (hall : (orbL xss n p).length = n) :
    Calls Try.prog 155 #[.agg #[.slice (some ⟨b, o, none⟩) N c], .int .i64 p] w (RetM w (frmL xss n p)) := by
  have OP := Lib.hid (okP_inv (okP_orb hsys hp hall))
  have HX := Lib.hid hx
  have HA := Lib.hid ha
  have HS := Lib.hid hsys
  have HALL := Lib.hid hall
  have HIL := Lib.hid (inv_orb_len hall)
  have BX0 := Lib.hid (Bx2.start w (.slice (some ⟨b, o, none⟩) N c))
  have BXD := Lib.hid (show Bx2 w ((w.alloc (.cells #[.slice (some ⟨b, o, none⟩) N c] 51)).alloc (.cells #[.slice none 0 0] 51)).drew (.slice (some ⟨b, o, none⟩) N c) from BX0.out.go (below_drewN (Below.refl _ _) 1))
  have HAD := Lib.hid (ha.keep BXD.out.below)
  have hcb := (Bx2.start w (.slice (some ⟨b, o, none⟩) N c)).cell
  clear hx ha hsys hall
  go_enter Try.func155, Try.ntmps155
  go_wp2_with fail
  go_region_held3 (fun w' => w'.cell? ⟨w.heap.size, 0, none⟩ = some (.slice (some ⟨b, o, none⟩) N c)) (first | (exact hcb) | (exact q) | (go_keep; done))
    (first
      | (go_at_call 190
         (with_reducible refine (snum_any _ HX.out HAD.out hN HS.out hp HALL.out).mono ?_)
         rintro e w1 ⟨A1, c1, rfl, own, bel⟩
         rw [HIL.out] at own ⊢
         have bx := BXD.out.go bel
         have q := bx.cell)
      | (go_at_call 157
         (with_reducible refine (sren_any _ HX.out (HA.out.keep bx.below) HS.out HIL.out (own_rd own) OP.out).mono ?_)
         rintro e w2 ⟨A2, c2, rfl, own2, bel2⟩
         have bx2 := bx.go bel2
         have q := bx2.cell
         have hc1 := bx2.cell1
         have hf1 := bx2.free1))
  go_wp2
  exact bodyPost_ret (v := .agg #[.slice A2 (renM xss (invL (orbL xss n p))).length c2]) (by simp [results, Try.results155, go_sem, hc1]) rfl (retM_yes bx2 own2 bx.size (Nat.le_refl _) _)
set_option maxHeartbeats 3200000 in
set_option maxRecDepth 8000 in
theorem iform_any {b o c N n p : Nat} {xss : List (List Int)} (w : World) (hx : xss.length = N) (ha : RdSS w (some ⟨b, o, none⟩) xss) (hN : N ≤ 1048576) (hsys : okSys n xss = true) (hp : p < n) (hpos : 0 < N) (hall : (orbL xss n p).length = n) :
    Calls Try.prog 134 #[.agg #[.slice (some ⟨b, o, none⟩) N c], .int .i64 p] w (RetM w (frmL xss n p)) := by
  have OP := Lib.hid (okP_inv (okP_orb hsys hp hall))
  have OPO := Lib.hid (okP_orb hsys hp hall)
  have hn6 : n ≤ 1048576 := by have := (sys_parts hsys).2.1; omega
  have HX := Lib.hid hx
  have HA := Lib.hid ha
  have HS := Lib.hid hsys
  have HALL := Lib.hid hall
  have HIL := Lib.hid (inv_orb_len hall)
  have BX0 := Lib.hid (Bx2.start w (.slice (some ⟨b, o, none⟩) N c))
  have BXD := Lib.hid (show Bx2 w ((w.alloc (.cells #[.slice (some ⟨b, o, none⟩) N c] 51)).alloc (.cells #[.slice none 0 0] 51)).drew (.slice (some ⟨b, o, none⟩) N c) from BX0.out.go (below_drewN (Below.refl _ _) 1))
  have HAD := Lib.hid (ha.keep BXD.out.below)
  have hcb := (Bx2.start w (.slice (some ⟨b, o, none⟩) N c)).cell
  clear hx ha hsys hall
  go_enter Try.func134, Try.ntmps134
  go_wp2_with fail
  go_region_held3 (fun w' => w'.cell? ⟨w.heap.size, 0, none⟩ = some (.slice (some ⟨b, o, none⟩) N c)) (first | (exact hcb) | (exact q) | (go_keep; done))
    (first
      | (go_at_call 126
         (with_reducible refine (flagsFrom_any _ HX.out HAD.out hN HS.out hpos hp).mono ?_)
         rintro e w0 ⟨A0, c0, rfl, own0, bel0⟩
         rw [HALL.out] at own0 ⊢
         have bx0 := BXD.out.go bel0
         have q := bx0.cell)
      | (go_at_call 100
         (with_reducible refine (inverse_any _ HALL.out (own_rd own0) hn6 OPO.out).mono ?_)
         rintro e w1 ⟨A1, c1, rfl, own, bel⟩
         rw [HIL.out] at own ⊢
         have bx := bx0.go bel
         have q := bx.cell)
      | (go_at_call 132
         (with_reducible refine (iren_any _ HX.out (HA.out.keep bx.below) HS.out HIL.out (own_rd own) OP.out).mono ?_)
         rintro e w2 ⟨A2, c2, rfl, own2, bel2⟩
         have bx2 := bx.go bel2
         have q := bx2.cell
         have hc1 := bx2.cell1
         have hf1 := bx2.free1))
  go_wp2
  exact bodyPost_ret (v := .agg #[.slice A2 (renM xss (invL (orbL xss n p))).length c2]) (by simp [results, Try.results134, go_sem, hc1]) rfl (retM_yes bx2 own2 bx.size (Nat.le_refl _) _)
end Go.Proofs.Ytjkddoiacifhpaa
