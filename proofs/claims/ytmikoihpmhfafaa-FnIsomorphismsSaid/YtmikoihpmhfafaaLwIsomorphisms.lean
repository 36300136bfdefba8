/- The walk of FnIsomorphisms. -/
import Derived.Test.YtmikoihpmhfafaaIph
import Derived.Test.YtmikoihpmhfafaaIpd
import Derived.Test.YtmikoihpmhfafaaAe
import Derived.Test.YtmikoihpmhfafaaL5a
import Derived.Test.YtmikoihpmhfafaaLk
namespace Go.Proofs.Ytmikoihpmhfafaa
open Go.RowKit

set_option maxHeartbeats 12800000 in
set_option maxRecDepth 100000 in
theorem law_FnIsomorphisms {A0 : Option Addr} {c0 n0 : Nat} {bs : List Value} (w : World) (hl : bs.length = n0) (hr : Rd w A0 bs) (hu : ∀ v ∈ bs, ∃ x : Nat, v = .int .u8 x ∧ x < 256) :
    Calls Try.prog 6 #[.slice A0 n0 c0] w fun e w' => e = .returned (.bool true) ∧ Below w.heap.size w w' := by
  have HL0 := Lib.hid hl
  have HR0 := Lib.hid hr
  have HU := Lib.hid hu
  have B0 := Lib.hid (Below.refl w.heap.size w)
  clear hl hr hu
  by_cases hbig : (4096 : Int) < (n0 : Int)
  · go_enter Try.func6, Try.ntmps6
    go_wp2_with fail
    refine (big_any w).mono ?_
    rintro e wz ⟨rfl, rfl⟩
    rw [decide_eq_true (show (4096 : Int) < (n0 : Int) by omega)]
    go_wp2
    go_ret
    exact ⟨rfl, B0.out⟩
  have hn0 : n0 ≤ 1048576 := by omega
  go_enter Try.func6, Try.ntmps6
  go_wp2_with fail
  refine (big_any w).mono ?_
  rintro e wz ⟨rfl, rfl⟩
  rw [decide_eq_false (show ¬ (4096 : Int) < (n0 : Int) by omega)]
  go_wp2_with fail
  refine (drawIso w HL0.out HR0.out HU.out hn0).mono ?_
  rintro e w1 ⟨A1, N, c1, xss, A2, M, c2, yss, rfl, ⟨hx, hN6, hrr, _, _⟩, ⟨hy, hM6, hry, _, _⟩, hrd, hrdy, bel1⟩
  have HX := Lib.hid hx
  have HA := Lib.hid hrd
  have HR := Lib.hid hrr
  have HY := Lib.hid hy
  have HB := Lib.hid hrdy
  have HRY := Lib.hid hry
  have B1 := Lib.hid bel1
  have hN : N ≤ 1048576 := by omega
  have hM : M ≤ 1048576 := by omega
  obtain ⟨L, hL⟩ : ∃ L, ioR xss yss = L := ⟨_, rfl⟩
  obtain ⟨C, hC⟩ : ∃ C, ioC xss yss = C := ⟨_, rfl⟩
  obtain ⟨l, hl⟩ : ∃ l, L.length = l := ⟨_, rfl⟩
  have hlb := ioR_le xss yss
  rw [hL, hl] at hlb
  have HL := Lib.hid hL
  have HC := Lib.hid hC
  have HLN := Lib.hid hl
  have sn_ : St w1 ((w1.alloc (.cells #[.slice A1 N c1] 26)).alloc (.cells #[.slice A2 M c2] 26)) [.blk w1.heap.size #[.slice A1 N c1] 26, .blk (w1.heap.size + 1) #[.slice A2 M c2] 26] := by simpa using ((St.start w1).addBlk #[.slice A1 N c1] 26).addBlk #[.slice A2 M c2] 26
  have S1 := Lib.hid sn_
  clear sn_ hx hrd hrr hy hrdy hry bel1 hL hC hl
  have bx0 := (S1.out.blk (i := 0) rfl).cell (i := 0) rfl
  have bx1 := (S1.out.blk (i := 1) rfl).cell (i := 0) rfl
  go_wp2_with fail
  refine (iIsomorphismOf_any _ HX.out (HA.out.keep S1.out.below) hN HR.out HY.out (HB.out.keep S1.out.below) hM HRY.out).mono ?_
  rintro e w2 ⟨Ai, ci, rfl, own, bel⟩
  rw [HL.out, HLN.out] at own
  rw [HL.out, HLN.out, HC.out]
  have sn_ := S1.out.addOwn bel own (Nat.le_refl _)
  simp only [List.nil_append, List.cons_append] at sn_
  have S2 := Lib.hid sn_
  clear sn_ own bel S1 bx0 bx1
  have bx0 := (S2.out.blk (i := 0) rfl).cell (i := 0) rfl
  have bx1 := (S2.out.blk (i := 1) rfl).cell (i := 0) rfl
  go_wp2_with fail
  refine (sIsomorphismOf_any _ HX.out (HA.out.keep S2.out.below) hN HR.out HY.out (HB.out.keep S2.out.below) hM HRY.out).mono ?_
  rintro e w3 ⟨As, cs, rfl, own, bel⟩
  rw [HL.out, HLN.out] at own
  rw [HL.out, HLN.out, HC.out]
  have sn_ := S2.out.addOwn bel own (Nat.le_refl _)
  simp only [List.nil_append, List.cons_append] at sn_
  have S3 := Lib.hid sn_
  clear sn_ own bel S2 bx0 bx1
  have hne : (C != C) = false := by simp
  go_wp2_with fail
  refine (likeB (n := l) (m := l) _ HLN.out HLN.out (own_rd (S3.out.own (i := 2) rfl)) (own_rd (S3.out.own (i := 3) rfl)) hlb).mono ?_
  rintro e w4 ⟨rfl, bel⟩
  rw [decide_eq_true (show L = L from rfl)]
  have S4 := Lib.hid (S3.out.go bel)
  clear bel S3 hne
  by_cases hC04 : C = 0 ∨ C = 4
  case neg =>
    have hc0 : ((C : Int) != 0) = true := by simp; omega
    have hc4 : ((C : Int) != 4) = true := by simp; omega
    go_wp2
    go_ret
    exact ⟨rfl, B1.out.trans (S4.out.below.mono B1.out.size)⟩
  case pos =>
    obtain ⟨b, pf⟩ := iphF (xss := xss) (yss := yss) (by rw [HC.out]; exact hC04)
    have hCb : C = if b then 0 else 4 := by rw [← HC.out]; exact pf.c
    have PF := Lib.hid pf
    clear pf hC04
    subst hCb
    cases b with
    | false =>
      have bx0 := (S4.out.blk (i := 0) rfl).cell (i := 0) rfl
      have bx1 := (S4.out.blk (i := 1) rfl).cell (i := 0) rfl
      simp only [Bool.false_eq_true, if_false]
      go_wp2_with fail
      refine (iAreIsomorphic_any _ HX.out (HA.out.keep S4.out.below) hN HR.out HY.out (HB.out.keep S4.out.below) hM HRY.out).mono ?_
      rintro e w5 ⟨rfl, bel⟩
      rw [PF.out.ab.1, PF.out.ab.2]
      have S5 := Lib.hid (S4.out.go bel)
      clear bel S4 bx0 bx1
      have bx0 := (S5.out.blk (i := 0) rfl).cell (i := 0) rfl
      have bx1 := (S5.out.blk (i := 1) rfl).cell (i := 0) rfl
      go_wp2_with fail
      refine (iAreIsomorphic_any _ HY.out (HB.out.keep S5.out.below) hM HRY.out HX.out (HA.out.keep S5.out.below) hN HR.out).mono ?_
      rintro e w6 ⟨rfl, bel⟩
      rw [PF.out.ba.1, PF.out.ba.2]
      have S6 := Lib.hid (S5.out.go bel)
      clear bel S5 bx0 bx1
      have bx0 := (S6.out.blk (i := 0) rfl).cell (i := 0) rfl
      have bx1 := (S6.out.blk (i := 1) rfl).cell (i := 0) rfl
      go_wp2_with fail
      refine (least5_any _ HX.out HY.out (HA.out.keep S6.out.below) (HB.out.keep S6.out.below) hN hM HR.out HRY.out PF.out.oX PF.out.oY PF.out.lf).mono ?_
      rintro e w7 ⟨rfl, bel⟩
      have S7 := Lib.hid (S6.out.go bel)
      clear bel S6 bx0 bx1
      go_wp2
      go_ret
      exact ⟨rfl, B1.out.trans (S7.out.below.mono B1.out.size)⟩
    | true =>
      have bx0 := (S4.out.blk (i := 0) rfl).cell (i := 0) rfl
      have bx1 := (S4.out.blk (i := 1) rfl).cell (i := 0) rfl
      simp only [if_true]
      go_wp2_with fail
      refine (iAreIsomorphic_any _ HX.out (HA.out.keep S4.out.below) hN HR.out HY.out (HB.out.keep S4.out.below) hM HRY.out).mono ?_
      rintro e w5 ⟨rfl, bel⟩
      rw [PF.out.ab.1, PF.out.ab.2]
      have S5 := Lib.hid (S4.out.go bel)
      clear bel S4 bx0 bx1
      have bx0 := (S5.out.blk (i := 0) rfl).cell (i := 0) rfl
      have bx1 := (S5.out.blk (i := 1) rfl).cell (i := 0) rfl
      go_wp2_with fail
      refine (iAreIsomorphic_any _ HY.out (HB.out.keep S5.out.below) hM HRY.out HX.out (HA.out.keep S5.out.below) hN HR.out).mono ?_
      rintro e w6 ⟨rfl, bel⟩
      rw [PF.out.ba.1, PF.out.ba.2]
      have S6 := Lib.hid (S5.out.go bel)
      clear bel S5 bx0 bx1
      have bx0 := (S6.out.blk (i := 0) rfl).cell (i := 0) rfl
      have bx1 := (S6.out.blk (i := 1) rfl).cell (i := 0) rfl
      go_wp2_with fail
      refine (least5_any _ HX.out HY.out (HA.out.keep S6.out.below) (HB.out.keep S6.out.below) hN hM HR.out HRY.out PF.out.oX PF.out.oY PF.out.lf).mono ?_
      rintro e w7 ⟨rfl, bel⟩
      have S7 := Lib.hid (S6.out.go bel)
      clear bel S6 bx0 bx1
      have bx0 := (S7.out.blk (i := 0) rfl).cell (i := 0) rfl
      go_wp2_with fail
      refine (iRenumberFlags_any _ HX.out (HA.out.keep S7.out.below) hN HR.out HLN.out (own_rd (S7.out.own (i := 2) rfl)) hlb).mono ?_
      rintro e w8 ⟨A8, c8, rfl, own, bel⟩
      have hrn := PF.out.rn rfl
      rw [HL.out] at hrn
      rw [hrn.1, HY.out] at own
      rw [hrn.1, hrn.2, HY.out]
      obtain ⟨v8, st_⟩ := S7.out.addRows bel own (Nat.le_refl _) (Nat.le_refl _)
      have sn_ := st_.addBlk #[.slice A8 M c8] 26
      simp only [List.nil_append, List.cons_append] at sn_
      have S8 := Lib.hid sn_
      clear own bel st_ sn_ S7 bx0 hrn
      have bx1 := (S8.out.blk (i := 1) rfl).cell (i := 0) rfl
      have bx5 := (S8.out.blk (i := 5) rfl).cell (i := 0) rfl
      go_wp2_with fail
      refine (like5_any (r := true) _ HY.out HY.out (ownSS_rd (S8.out.sep.ownSS (i := 4) rfl)) (HB.out.keep S8.out.below) hM hM HRY.out HRY.out (decide_eq_true rfl)).mono ?_
      rintro e w9 ⟨rfl, bel⟩
      have S9 := Lib.hid (S8.out.go bel)
      go_wp2
      go_ret
      exact ⟨rfl, B1.out.trans (S9.out.below.mono B1.out.size)⟩

theorem walk_FnIsomorphisms (a0 : Option Addr) (len0 cap0 : Nat) (z0 : List Int) (w : World) (w0 : IsRow .u8 w a0 len0 cap0 z0) :
    Calls Try.prog 6 #[.slice a0 len0 cap0] w fun e w' => e = .returned (.bool true) ∧ Below w.heap.size w w' := by
  obtain ⟨bs, hl, hr, hu⟩ := isRow_u8 w0
  exact law_FnIsomorphisms w hl hr hu
end Go.Proofs.Ytmikoihpmhfafaa
