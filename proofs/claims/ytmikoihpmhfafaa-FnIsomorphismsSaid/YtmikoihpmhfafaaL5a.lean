/- laws.least5: whether two maniplexes have the same least form. -/
import Derived.Test.YtmikoihpmhfafaaLk
import Derived.Test.YtmikoihpmhfafaaL9
import Derived.Test.YtmikoihpmhfafaaL12
namespace Go.Proofs.Ytmikoihpmhfafaa
open Go.RowKit

theorem lfR_len5 {xss : List (List Int)} (h : okMan xss = true) : (lfR xss).length = xss.length := by
  unfold lfR
  rw [if_pos h, lstTo_len]
theorem lfR_row5 {xss : List (List Int)} : ∀ xs ∈ lfR xss, (xs.length : Int) ≤ 1048576 := by
  unfold lfR
  split
  · rename_i h
    intro xs hx
    have hm := okMan_iff.1 h
    have := lstTo_row (fun q hq => hm.all hq) (flN xss - 1) (by have := hm.f2; omega) xs hx
    have := hm.f4
    omega
  · simp
set_option maxHeartbeats 1600000 in
theorem least5_any {A B : Option Addr} {c d n m : Nat} {xss yss : List (List Int)} {r : Bool} (w : World) (hx : xss.length = n) (hy : yss.length = m) (ha : RdSS w A xss) (hb : RdSS w B yss) (hn : n ≤ 1048576) (hm : m ≤ 1048576) (hrx : ∀ xs ∈ xss, (xs.length : Int) ≤ 1048576) (hry : ∀ xs ∈ yss, (xs.length : Int) ≤ 1048576) (h1 : okMan xss = true) (h2 : okMan yss = true) (he : decide (lfR xss = lfR yss) = r) :
    Calls Try.prog 36 #[.agg #[.slice A n c], .agg #[.slice B m d]] w fun e w' => e = .returned (.bool r) ∧ Below w.heap.size w w' := by
  have st0 := ((St.start w).addBlk #[.slice A n c] 26).addBlk #[.slice B m d] 26
  simp at st0
  have S0 := Lib.hid st0
  have HA := Lib.hid ha
  have HB := Lib.hid hb
  have HX := Lib.hid hx
  have HY := Lib.hid hy
  have HRX := Lib.hid hrx
  have HRY := Lib.hid hry
  have HE := Lib.hid he
  have M1 := Lib.hid (show manC xss = 0 by simp [manC, h1])
  have M2 := Lib.hid (show manC yss = 0 by simp [manC, h2])
  have L1 := Lib.hid (show (lfR xss).length = n by rw [lfR_len5 h1, hx])
  have L2 := Lib.hid (show (lfR yss).length = m by rw [lfR_len5 h2, hy])
  clear ha hb hx hy hrx hry he h1 h2 st0
  have hb0 := (S0.out.blk (i := 0) rfl).cell (i := 0) rfl
  have hb1 := (S0.out.blk (i := 1) rfl).cell (i := 0) rfl
  go_enter Try.func36, Try.ntmps36
  go_wp2_with fail
  refine (iLeastForm_any _ HX.out (HA.out.keep S0.out.below) hn HRX.out).mono ?_
  rintro e w1 ⟨A1, c1, rfl, own, bel⟩
  rw [L1.out] at own
  rw [M1.out, L1.out]
  obtain ⟨v1, st_⟩ := S0.out.addRows bel own (Nat.le_refl _) (Nat.le_refl _)
  have S1 := Lib.hid (st_.addBlk #[.slice A1 n c1] 26)
  clear own bel st_ hb0 hb1
  have hb1 := (S1.out.blk (i := 1) rfl).cell (i := 0) rfl
  go_wp2_with fail
  refine (iLeastForm_any _ HY.out (HB.out.keep S1.out.below) hm HRY.out).mono ?_
  rintro e w2 ⟨A2, c2, rfl, own, bel⟩
  rw [L2.out] at own
  rw [M2.out, L2.out]
  obtain ⟨v2, st_⟩ := S1.out.addRows bel own (Nat.le_refl _) (Nat.le_refl _)
  have S2 := Lib.hid (st_.addBlk #[.slice A2 m c2] 26)
  clear own bel st_ hb1
  have hb1 := (S2.out.blk (i := 3) rfl).cell (i := 0) rfl
  have hb2 := (S2.out.blk (i := 5) rfl).cell (i := 0) rfl
  go_wp2_with fail
  refine (like5_any (n := n) (m := m) (xss := lfR xss) (yss := lfR yss) (r := r) _ L1.out L2.out (ownSS_rd (S2.out.sep.ownSS (i := 2) rfl)) (ownSS_rd (S2.out.sep.ownSS (i := 4) rfl)) hn hm lfR_row5 lfR_row5 HE.out).mono ?_
  rintro e w3 ⟨rfl, bel⟩
  have S3 := Lib.hid (S2.out.go bel)
  clear bel hb1 hb2
  go_wp2
  go_ret
  exact ⟨rfl, S3.out.below⟩
end Go.Proofs.Ytmikoihpmhfafaa
