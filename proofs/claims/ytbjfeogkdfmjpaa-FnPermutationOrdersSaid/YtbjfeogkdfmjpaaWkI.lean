import Derived.Test.YtbjfeogkdfmjpaaWkH
namespace Go.Proofs.Ytbjfeogkdfmjpaa
open Go.RowKit

/-- Two permutations of equally many points. -/
def okTwo (xs ys : List Int) : Bool := okP xs && okP ys && decide (xs.length = ys.length)
def twoC (xs ys : List Int) : Int := if okTwo xs ys then 0 else 1
def thenR (xs ys : List Int) : List Int := if okTwo xs ys then thenL xs ys else []
def conjL (xs ys : List Int) : List Int := thenL (thenL (invL ys) xs) ys
def conjR (xs ys : List Int) : List Int := if okTwo xs ys then conjL xs ys else []
theorem thenR_len (xs ys : List Int) : (thenR xs ys).length ≤ xs.length := by
  unfold thenR; split
  · rw [thenL_length]; exact Nat.le_refl _
  · simp
theorem conjR_len (xs ys : List Int) : (conjR xs ys).length ≤ ys.length := by
  unfold conjR; split
  · unfold conjL; rw [thenL_length, thenL_length, invL_len]; exact Nat.le_refl _
  · simp
theorem okTwo_parts {xs ys : List Int} (h : okTwo xs ys = true) : okP xs = true ∧ okP ys = true ∧ xs.length = ys.length := by
  simpa [okTwo, and_assoc] using h

set_option maxHeartbeats 800000 in
theorem two_any {A A2 : Option Addr} {c c2 : Nat} {xs ys : List Int} {n m : Nat} (w : World) (hx : xs.length = n) (ha : Rd w A (ints xs)) (hn : n ≤ 1048576) (hy : ys.length = m) (ha2 : Rd w A2 (ints ys)) (hm : m ≤ 1048576) :
    Calls Try.prog 80 #[.slice A n c, .slice A2 m c2] w fun e w' => e = .returned (.int .i64 (twoC xs ys)) ∧ Below w.heap.size w w' := by
  have HX := Lib.hid hx
  have HA := Lib.hid ha
  have HY := Lib.hid hy
  have HA2 := Lib.hid ha2
  cases hp : okP xs
  · have hc := Lib.hid (show twoC xs ys = 1 by simp [twoC, okTwo, hp])
    have HP := Lib.hid hp
    clear hx ha hy ha2 hp
    go_enter Try.func80, Try.ntmps80
    go_wp2_with fail
    refine (perm_any w HX.out HA.out hn).mono ?_
    rintro e w1 ⟨rfl, bel⟩
    rw [HP.out]
    have BEL := Lib.hid bel
    clear bel
    go_wp2
    go_ret
    exact ⟨ret_i64 hc.out.symm, BEL.out⟩
  cases hq : okP ys
  · have hc := Lib.hid (show twoC xs ys = 1 by simp [twoC, okTwo, hq])
    have HP := Lib.hid hp
    have HQ := Lib.hid hq
    clear hx ha hy ha2 hp hq
    go_enter Try.func80, Try.ntmps80
    go_wp2_with fail
    refine (perm_any w HX.out HA.out hn).mono ?_
    rintro e w1 ⟨rfl, bel⟩
    rw [HP.out]
    have BEL := Lib.hid bel
    clear bel
    go_wp2_with fail
    refine (perm_any w1 HY.out (HA2.out.keep BEL.out) hm).mono ?_
    rintro e w2 ⟨rfl, bel⟩
    rw [HQ.out]
    have BEL2 := Lib.hid bel
    clear bel
    go_wp2
    go_ret
    exact ⟨ret_i64 hc.out.symm, BEL.out.trans (BEL2.out.mono BEL.out.size)⟩
  by_cases hl : n = m
  · have hc := Lib.hid (show twoC xs ys = 0 by simp [twoC, okTwo, hp, hq, hx, hy, hl])
    subst hl
    have HP := Lib.hid hp
    have HQ := Lib.hid hq
    clear hx ha hy ha2 hp hq
    have hne : ((n : Int) != (n : Int)) = false := by simp
    go_enter Try.func80, Try.ntmps80
    go_wp2_with fail
    refine (perm_any w HX.out HA.out hn).mono ?_
    rintro e w1 ⟨rfl, bel⟩
    rw [HP.out]
    have BEL := Lib.hid bel
    clear bel
    go_wp2_with fail
    refine (perm_any w1 HY.out (HA2.out.keep BEL.out) hm).mono ?_
    rintro e w2 ⟨rfl, bel⟩
    rw [HQ.out]
    have BEL2 := Lib.hid bel
    clear bel
    go_wp2
    go_ret
    exact ⟨ret_i64 hc.out.symm, BEL.out.trans (BEL2.out.mono BEL.out.size)⟩
  · have hc := Lib.hid (show twoC xs ys = 1 by simp [twoC, okTwo, hp, hq, hx, hy, hl])
    have HP := Lib.hid hp
    have HQ := Lib.hid hq
    have hne : ((n : Int) != (m : Int)) = true := by rw [bne_iff_ne]; omega
    clear hx ha hy ha2 hp hq hl
    go_enter Try.func80, Try.ntmps80
    go_wp2_with fail
    refine (perm_any w HX.out HA.out hn).mono ?_
    rintro e w1 ⟨rfl, bel⟩
    rw [HP.out]
    have BEL := Lib.hid bel
    clear bel
    go_wp2_with fail
    refine (perm_any w1 HY.out (HA2.out.keep BEL.out) hm).mono ?_
    rintro e w2 ⟨rfl, bel⟩
    rw [HQ.out]
    have BEL2 := Lib.hid bel
    clear bel
    go_wp2
    go_ret
    exact ⟨ret_i64 hc.out.symm, BEL.out.trans (BEL2.out.mono BEL.out.size)⟩

set_option maxHeartbeats 800000 in
theorem alike_any {A A2 : Option Addr} {c c2 : Nat} {xs ys : List Int} {n m : Nat} (w : World) (hx : xs.length = n) (ha : Rd w A (ints xs)) (hn : n ≤ 1048576) (hy : ys.length = m) (ha2 : Rd w A2 (ints ys)) (hm : m ≤ 1048576) :
    Calls Try.prog 75 #[.slice A n c, .slice A2 m c2] w fun e w' => e = .returned (.bool (okTwo xs ys)) ∧ Below w.heap.size w w' := by
  have HX := Lib.hid hx
  have HA := Lib.hid ha
  have HY := Lib.hid hy
  have HA2 := Lib.hid ha2
  by_cases hl : n = m
  · subst hl
    have hne : ((n : Int) == (n : Int)) = true := by simp
    cases hp : okP xs
    · have hc := Lib.hid (show okTwo xs ys = false by simp [okTwo, hp])
      have HP := Lib.hid hp
      clear hx ha hy ha2 hp
      go_enter Try.func75, Try.ntmps75
      go_wp2_with fail
      refine (valid_any w HX.out HA.out hn).mono ?_
      rintro e w1 ⟨rfl, bel⟩
      rw [HP.out]
      have BEL := Lib.hid bel
      clear bel
      go_wp2
      go_ret
      exact ⟨ret_bool hc.out.symm, BEL.out⟩
    · have hc := Lib.hid (show okTwo xs ys = okP ys by simp [okTwo, hp, hx, hy])
      have HP := Lib.hid hp
      clear hx ha hy ha2 hp
      go_enter Try.func75, Try.ntmps75
      go_wp2_with fail
      refine (valid_any w HX.out HA.out hn).mono ?_
      rintro e w1 ⟨rfl, bel⟩
      rw [HP.out]
      have BEL := Lib.hid bel
      clear bel
      go_wp2_with fail
      refine (valid_any w1 HY.out (HA2.out.keep BEL.out) hm).mono ?_
      rintro e w2 ⟨rfl, bel⟩
      have BEL2 := Lib.hid bel
      clear bel
      go_wp2
      go_ret
      exact ⟨ret_bool hc.out.symm, BEL.out.trans (BEL2.out.mono BEL.out.size)⟩
  · have hc := Lib.hid (show okTwo xs ys = false by simp [okTwo, hx, hy, hl])
    have hne : ((n : Int) == (m : Int)) = false := by rw [beq_eq_false_iff_ne]; omega
    clear hx ha hy ha2 hl
    go_enter Try.func75, Try.ntmps75
    go_wp2
    go_ret
    exact ⟨ret_bool hc.out.symm, Below.refl _ _⟩

theorem inR_conj {xs ys : List Int} {m : Nat} (hy : ys.length = m) (hx : okP xs = true) (hl : xs.length = ys.length) : InR (thenL (invL ys) xs) m := by
  refine inR_then (by rw [hl]; exact inR_inv ys) ?_
  have h := inR_ok hx
  rwa [hl, hy] at h
theorem len_eq {xs ys : List Int} {n m : Nat} (hx : xs.length = n) (hy : ys.length = m) (h : xs.length = ys.length) : m = n := by omega
set_option maxHeartbeats 800000 in
theorem sThen_any {A A2 : Option Addr} {c c2 : Nat} {xs ys : List Int} {n m : Nat} (w : World) (hx : xs.length = n) (ha : Rd w A (ints xs)) (hn : n ≤ 1048576) (hy : ys.length = m) (ha2 : Rd w A2 (ints ys)) (hm : m ≤ 1048576) :
    Calls Try.prog 51 #[.slice A n c, .slice A2 m c2] w (RetS w (thenR xs ys) (twoC xs ys)) := by
  have HX := Lib.hid hx
  have HA := Lib.hid ha
  have HY := Lib.hid hy
  have HA2 := Lib.hid ha2
  cases hp : okTwo xs ys
  · have hr : thenR xs ys = [] := by simp [thenR, hp]
    have hc : twoC xs ys = 1 := by simp [twoC, hp]
    rw [hr, hc]
    have HP := Lib.hid hp
    have HC := Lib.hid hc
    clear hp hr hc hx ha hy ha2
    go_enter Try.func51, Try.ntmps51
    go_wp2_with fail
    refine (two_any w HX.out HA.out hn HY.out HA2.out hm).mono ?_
    rintro e w1 ⟨rfl, bel⟩
    rw [HC.out]
    have BEL := Lib.hid bel
    clear bel
    go_wp2
    go_ret2
    exact ⟨none, 0, rfl, World.ownsRow_nil _ _ _ _, BEL.out⟩
  · have hr : thenR xs ys = thenL xs ys := by simp [thenR, hp]
    have hc : twoC xs ys = 0 := by simp [twoC, hp]
    rw [hr, hc]
    have h3 := okTwo_parts hp
    have HP := Lib.hid hp
    have H3 := Lib.hid h3
    clear h3
    have HC := Lib.hid hc
    clear hp hr hc hx ha hy ha2
    go_enter Try.func51, Try.ntmps51
    go_wp2_with fail
    refine (two_any w HX.out HA.out hn HY.out HA2.out hm).mono ?_
    rintro e w1 ⟨rfl, bel⟩
    rw [HC.out]
    have BEL := Lib.hid bel
    clear bel
    go_wp2_with fail
    refine (sthen_any w1 HX.out (HA.out.keep BEL.out) hn HY.out (HA2.out.keep BEL.out) (by have h := inR_ok H3.out.1; rwa [H3.out.2.2, HY.out] at h)).mono ?_
    rintro e w2 ⟨A3, c3, rfl, own, bel⟩
    have OWN := Lib.hid own
    have BEL2 := Lib.hid bel
    clear own bel
    go_wp2
    go_ret2
    exact ⟨_, _, rfl, own_base OWN.out BEL.out.size, BEL.out.trans (BEL2.out.mono BEL.out.size)⟩

set_option maxHeartbeats 800000 in
theorem iThen_any {A A2 : Option Addr} {c c2 : Nat} {xs ys : List Int} {n m : Nat} (w : World) (hx : xs.length = n) (ha : Rd w A (ints xs)) (hn : n ≤ 1048576) (hy : ys.length = m) (ha2 : Rd w A2 (ints ys)) (hm : m ≤ 1048576) :
    Calls Try.prog 28 #[.slice A n c, .slice A2 m c2] w (RetS w (thenR xs ys) (twoC xs ys)) := by
  have HX := Lib.hid hx
  have HA := Lib.hid ha
  have HY := Lib.hid hy
  have HA2 := Lib.hid ha2
  cases hp : okTwo xs ys
  · have hr : thenR xs ys = [] := by simp [thenR, hp]
    have hc : twoC xs ys = 1 := by simp [twoC, hp]
    rw [hr, hc]
    have HP := Lib.hid hp
    have HC := Lib.hid hc
    clear hp hr hc hx ha hy ha2
    go_enter Try.func28, Try.ntmps28
    go_wp2_with fail
    refine (alike_any w HX.out HA.out hn HY.out HA2.out hm).mono ?_
    rintro e w1 ⟨rfl, bel⟩
    rw [HP.out]
    have BEL := Lib.hid bel
    clear bel
    go_wp2
    go_ret2
    exact ⟨none, 0, rfl, World.ownsRow_nil _ _ _ _, BEL.out⟩
  · have hr : thenR xs ys = thenL xs ys := by simp [thenR, hp]
    have hc : twoC xs ys = 0 := by simp [twoC, hp]
    rw [hr, hc]
    have h3 := okTwo_parts hp
    have HP := Lib.hid hp
    have H3 := Lib.hid h3
    clear h3
    have HC := Lib.hid hc
    clear hp hr hc hx ha hy ha2
    go_enter Try.func28, Try.ntmps28
    go_wp2_with fail
    refine (alike_any w HX.out HA.out hn HY.out HA2.out hm).mono ?_
    rintro e w1 ⟨rfl, bel⟩
    rw [HP.out]
    have BEL := Lib.hid bel
    clear bel
    go_wp2_with fail
    refine (ithen_any w1 HX.out (HA.out.keep BEL.out) hn HY.out (HA2.out.keep BEL.out) (by have h := inR_ok H3.out.1; rwa [H3.out.2.2, HY.out] at h)).mono ?_
    rintro e w2 ⟨A3, c3, rfl, own, bel⟩
    have OWN := Lib.hid own
    have BEL2 := Lib.hid bel
    clear own bel
    go_wp2
    go_ret2
    exact ⟨_, _, rfl, own_base OWN.out BEL.out.size, BEL.out.trans (BEL2.out.mono BEL.out.size)⟩

set_option maxHeartbeats 800000 in
theorem sConj_any {A A2 : Option Addr} {c c2 : Nat} {xs ys : List Int} {n m : Nat} (w : World) (hx : xs.length = n) (ha : Rd w A (ints xs)) (hn : n ≤ 1048576) (hy : ys.length = m) (ha2 : Rd w A2 (ints ys)) (hm : m ≤ 1048576) :
    Calls Try.prog 35 #[.slice A n c, .slice A2 m c2] w (RetS w (conjR xs ys) (twoC xs ys)) := by
  have HX := Lib.hid hx
  have HA := Lib.hid ha
  have HY := Lib.hid hy
  have HA2 := Lib.hid ha2
  cases hp : okTwo xs ys
  · have hr : conjR xs ys = [] := by simp [conjR, hp]
    have hc : twoC xs ys = 1 := by simp [twoC, hp]
    rw [hr, hc]
    have HP := Lib.hid hp
    have HC := Lib.hid hc
    clear hp hr hc hx ha hy ha2
    go_enter Try.func35, Try.ntmps35
    go_wp2_with fail
    refine (two_any w HX.out HA.out hn HY.out HA2.out hm).mono ?_
    rintro e w1 ⟨rfl, bel⟩
    rw [HC.out]
    have BEL := Lib.hid bel
    clear bel
    go_wp2
    go_ret2
    exact ⟨none, 0, rfl, World.ownsRow_nil _ _ _ _, BEL.out⟩
  · have hr : conjR xs ys = conjL xs ys := by simp [conjR, hp]
    have hc : twoC xs ys = 0 := by simp [twoC, hp]
    rw [hr, hc]
    have h3 := okTwo_parts hp
    have HP := Lib.hid hp
    have H3 := Lib.hid h3
    clear h3
    have HC := Lib.hid hc
    clear hp hr hc hx ha hy ha2
    go_enter Try.func35, Try.ntmps35
    go_wp2_with fail
    refine (two_any w HX.out HA.out hn HY.out HA2.out hm).mono ?_
    rintro e w1 ⟨rfl, bel⟩
    rw [HC.out]
    have BEL := Lib.hid bel
    clear bel
    go_wp2_with fail
    refine (back_any w1 HY.out (HA2.out.keep BEL.out) hm H3.out.2.1).mono ?_
    rintro e w2 ⟨A3, c3, rfl, own, bel⟩
    have OWN := Lib.hid own
    have BEL2 := Lib.hid (BEL.out.trans (bel.mono BEL.out.size))
    clear own bel
    go_wp2_with fail
    refine (sthen_any w2 rfl (own_rd OWN.out) (by rw [invL_len, HY.out]; exact hm) HX.out (HA.out.keep BEL2.out) (by have h := inR_inv ys; rwa [← H3.out.2.2, HX.out] at h)).mono ?_
    rintro e w3 ⟨A4, c4, rfl, own, bel⟩
    have OWN3 := Lib.hid own
    have BEL3 := Lib.hid (BEL2.out.trans (bel.mono BEL2.out.size))
    clear own bel OWN
    go_wp2_with fail
    refine (sthen_any w3 rfl (own_rd OWN3.out) (by rw [thenL_length, invL_len, HY.out]; exact hm) HY.out (HA2.out.keep BEL3.out) (by exact inR_conj HY.out H3.out.1 H3.out.2.2)).mono ?_
    rintro e w4 ⟨A5, c5, rfl, own, bel⟩
    have OWN4 := Lib.hid (own_base own BEL3.out.size)
    have BEL4 := Lib.hid (BEL3.out.trans (bel.mono BEL3.out.size))
    clear own bel OWN3
    go_wp2
    go_ret2
    exact ⟨_, _, rfl, OWN4.out, BEL4.out⟩

set_option maxHeartbeats 800000 in
theorem iConj_any {A A2 : Option Addr} {c c2 : Nat} {xs ys : List Int} {n m : Nat} (w : World) (hx : xs.length = n) (ha : Rd w A (ints xs)) (hn : n ≤ 1048576) (hy : ys.length = m) (ha2 : Rd w A2 (ints ys)) (hm : m ≤ 1048576) :
    Calls Try.prog 34 #[.slice A n c, .slice A2 m c2] w (RetS w (conjR xs ys) (twoC xs ys)) := by
  have HX := Lib.hid hx
  have HA := Lib.hid ha
  have HY := Lib.hid hy
  have HA2 := Lib.hid ha2
  cases hp : okTwo xs ys
  · have hr : conjR xs ys = [] := by simp [conjR, hp]
    have hc : twoC xs ys = 1 := by simp [twoC, hp]
    rw [hr, hc]
    have HP := Lib.hid hp
    have HC := Lib.hid hc
    clear hp hr hc hx ha hy ha2
    go_enter Try.func34, Try.ntmps34
    go_wp2_with fail
    refine (alike_any w HX.out HA.out hn HY.out HA2.out hm).mono ?_
    rintro e w1 ⟨rfl, bel⟩
    rw [HP.out]
    have BEL := Lib.hid bel
    clear bel
    go_wp2
    go_ret2
    exact ⟨none, 0, rfl, World.ownsRow_nil _ _ _ _, BEL.out⟩
  · have hr : conjR xs ys = conjL xs ys := by simp [conjR, hp]
    have hc : twoC xs ys = 0 := by simp [twoC, hp]
    rw [hr, hc]
    have h3 := okTwo_parts hp
    have HP := Lib.hid hp
    have H3 := Lib.hid h3
    clear h3
    have HC := Lib.hid hc
    clear hp hr hc hx ha hy ha2
    go_enter Try.func34, Try.ntmps34
    go_wp2_with fail
    refine (alike_any w HX.out HA.out hn HY.out HA2.out hm).mono ?_
    rintro e w1 ⟨rfl, bel⟩
    rw [HP.out]
    have BEL := Lib.hid bel
    clear bel
    go_wp2_with fail
    refine (inverse_any w1 HY.out (HA2.out.keep BEL.out) hm H3.out.2.1).mono ?_
    rintro e w2 ⟨A3, c3, rfl, own, bel⟩
    have OWN := Lib.hid own
    have BEL2 := Lib.hid (BEL.out.trans (bel.mono BEL.out.size))
    clear own bel
    go_wp2_with fail
    refine (ithen_any w2 rfl (own_rd OWN.out) (by rw [invL_len, HY.out]; exact hm) HX.out (HA.out.keep BEL2.out) (by have h := inR_inv ys; rwa [← H3.out.2.2, HX.out] at h)).mono ?_
    rintro e w3 ⟨A4, c4, rfl, own, bel⟩
    have OWN3 := Lib.hid own
    have BEL3 := Lib.hid (BEL2.out.trans (bel.mono BEL2.out.size))
    clear own bel OWN
    go_wp2_with fail
    refine (ithen_any w3 rfl (own_rd OWN3.out) (by rw [thenL_length, invL_len, HY.out]; exact hm) HY.out (HA2.out.keep BEL3.out) (by exact inR_conj HY.out H3.out.1 H3.out.2.2)).mono ?_
    rintro e w4 ⟨A5, c5, rfl, own, bel⟩
    have OWN4 := Lib.hid (own_base own BEL3.out.size)
    have BEL4 := Lib.hid (BEL3.out.trans (bel.mono BEL3.out.size))
    clear own bel OWN3
    go_wp2
    go_ret2
    exact ⟨_, _, rfl, OWN4.out, BEL4.out⟩

end Go.Proofs.Ytbjfeogkdfmjpaa
