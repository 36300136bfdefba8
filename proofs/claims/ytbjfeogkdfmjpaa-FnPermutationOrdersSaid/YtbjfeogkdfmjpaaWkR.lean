import Derived.Test.YtbjfeogkdfmjpaaWkQ
import Derived.Test.YtbjfeogkdfmjpaaWkK
namespace Go.Proofs.Ytbjfeogkdfmjpaa
open Go.RowKit

def ordO (xs : List Int) : Nat := ordF (lensL xs) 1
/-- What the program's own order function gives back. -/
def OrdRet (w : World) (xs : List Int) (e : Ending) (w' : World) : Prop :=
  ((1000000000000000 < ordO xs ∧ e = .returned (.tuple #[.int .i64 0, .bool false])) ∨ (ordO xs ≤ 1000000000000000 ∧ e = .returned (.tuple #[.int .i64 (ordO xs), .bool true]))) ∧ Below w.heap.size w w'

set_option maxHeartbeats 1600000 in
theorem iord_any {A : Option Addr} {c n : Nat} {xs : List Int} (w : World) (hx : xs.length = n) (ha : Rd w A (ints xs)) (hn : n ≤ 1048576) (hp : okP xs = true) :
    Calls Try.prog 70 #[.slice A n c] w (OrdRet w xs) := by
  have HX := Lib.hid hx
  have HA := Lib.hid ha
  have HP := Lib.hid hp
  have hl : (lensL xs).length ≤ n := by rw [lensL_length]; have := cycL_le xs; omega
  obtain ⟨m, hm⟩ : ∃ m, (lensL xs).length = m := ⟨_, rfl⟩
  rw [hm] at hl
  have HM := Lib.hid hm
  clear hx ha hp hm
  go_enter Try.func70, Try.ntmps70
  go_wp2_with fail
  refine (ilens_any w HX.out HA.out hn HP.out).mono ?_
  rintro e w1 ⟨A1, c1, rfl, own, bel⟩
  rw [HM.out] at own ⊢
  have OWN := Lib.hid own
  have BEL := Lib.hid bel
  clear own bel
  go_wp2
  go_loopw [4, 10] (fun p q wr => ∃ k o : Nat, k ≤ m ∧ q = .int .i64 k ∧ p = .int .i64 o ∧ 1 ≤ o ∧ o ≤ 1000000000000000 ∧ ordF ((lensL xs).drop k) o = ordO xs ∧ Below w1.heap.size w1 wr) (fun _ q _ => m - (intOf q).toNat)
  case atStart => exact ⟨0, 1, Nat.zero_le _, rfl, rfl, by omega, by omega, by simp [ordO], Below.refl _ _⟩
  case round =>
    obtain ⟨k, o, hk, rfl, rfl, ho1, ho2, hord, bel2⟩ := hrel
    have ORD := Lib.hid hord
    have BEL2 := Lib.hid bel2
    clear hord bel2
    by_cases hlt : k < m
    · obtain ⟨b, oo, x, rfl, hgx, hcx⟩ := ((own_rd OWN.out).keep BEL2.out).int (k := k) (by rw [HM.out]; exact hlt)
      obtain ⟨l, rfl, hl1, hl2⟩ := lens_bounds HP.out hgx
      have hst := ordF_step (o := o) hgx
      rw [ORD.out] at hst
      have ST := Lib.hid hst
      have hbd := step_bound ho2 hl2
      have hso := step_other (o := o) (x := l)
      obtain ⟨g, hg⟩ : ∃ g, Nat.gcd o l = g := ⟨_, rfl⟩
      have hgp : 0 < g := by rw [← hg]; exact Nat.gcd_pos_of_pos_left _ (by omega)
      have hgo : g ≤ o := by rw [← hg]; exact Nat.gcd_le_left _ (by omega)
      rw [hg] at hbd hso
      rw [← hso] at hbd
      have HG := Lib.hid hg
      have HBD := Lib.hid hbd
      have HSO := Lib.hid hso
      clear hgx hst hg hbd hso
      have hz : ((g : Int) == 0) = false := by rw [beq_eq_false_iff_ne]; omega
      go_wp2_with fail
      refine (igcd_eq o l g wr HG.out (by omega) (by omega)).mono ?_
      rintro e w2 ⟨rfl, j, rfl⟩
      have EW := Lib.hid (ord_wrap2 (o := o) (g := g) (l := l) hl2 HBD.out)
      have hs : ordO xs = if 1000000000000000 < o * (l / g) then 1000000000000001 else ordF ((lensL xs).drop (k + 1)) (o * (l / g)) := by rw [ST.out, HG.out, HSO.out]
      have HS := Lib.hid hs
      have hpos : 1 ≤ o * (l / g) := by rw [HSO.out]; exact Nat.mul_pos (Nat.div_pos hgo hgp) hl1
      have HPOS := Lib.hid hpos
      clear hs hpos
      go_wp2
      · have h : (1000000000000000 : Int) < wrap64 ((o : Int) * wrap64 ((l : Int) / (g : Int))) := by assumption
        rw [EW.out] at h
        have h2 := HS.out
        rw [if_pos (by omega)] at h2
        go_ret2
        exact ⟨.inl ⟨by omega, rfl⟩, below_drewN (BEL.out.trans (BEL2.out.mono BEL.out.size)) _⟩
      · have h : wrap64 ((o : Int) * wrap64 ((l : Int) / (g : Int))) ≤ (1000000000000000 : Int) := by assumption
        rw [EW.out] at h
        have h2 := HS.out
        rw [if_neg (by omega)] at h2
        go_roundw
        case rel => exact ⟨k + 1, o * (l / g), by omega, by go_num, by rw [EW.out], HPOS.out, by omega, h2.symm, below_drewN BEL2.out _⟩
        case measure => simp [intOf]; omega
    · have h := ORD.out
      rw [List.drop_of_length_le (by rw [HM.out]; omega)] at h
      have H : ordO xs = o := h.symm
      have HH := Lib.hid H
      clear h H
      go_wp2
      go_ret2
      exact ⟨.inr ⟨by rw [HH.out]; exact ho2, by rw [HH.out]; rfl⟩, BEL.out.trans (BEL2.out.mono BEL.out.size)⟩

def ordR (xs : List Int) : Int := if okP xs then (if 1000000000000000 < ordO xs then 0 else (ordO xs : Int)) else 0
def ordC (xs : List Int) : Int := if okP xs then (if 1000000000000000 < ordO xs then 3 else 0) else 1

theorem sOrd_any {A : Option Addr} {c : Nat} {xs : List Int} {n : Nat} (w : World) (hx : xs.length = n) (ha : Rd w A (ints xs)) (hn : n ≤ 1048576) :
    Calls Try.prog 22 #[.slice A n c] w fun e w' => e = .returned (.tuple #[.int .i64 (ordR xs), .int .i64 (ordC xs)]) ∧ Below w.heap.size w w' := by
  have HX := Lib.hid hx
  have HA := Lib.hid ha
  clear hx ha
  cases hp : okP xs
  · have hr : ordR xs = 0 := by simp [ordR, hp]
    have hc : ordC xs = 1 := by simp [ordC, hp]
    rw [hr, hc]
    have HP := Lib.hid hp
    clear hp hr hc
    go_enter Try.func22, Try.ntmps22
    go_wp2_with fail
    refine (perm_any w HX.out HA.out hn).mono ?_
    rintro e w' ⟨rfl, bel⟩
    rw [HP.out]
    have BEL := Lib.hid bel
    clear bel
    go_wp2
    go_ret2
    exact ⟨rfl, BEL.out⟩
  · have HP := Lib.hid hp
    by_cases hbig : 1000000000000000 < ordO xs
    · have hr : ordR xs = 0 := by simp [ordR, hp, hbig]
      have hc : ordC xs = 3 := by simp [ordC, hp, hbig]
      rw [hr, hc]
      have hbig2 : (1000000000000000 : Int) < (ordO xs : Int) := by omega
      clear hp hr hc hbig
      go_enter Try.func22, Try.ntmps22
      go_wp2_with fail
      refine (perm_any w HX.out HA.out hn).mono ?_
      rintro e w' ⟨rfl, bel⟩
      rw [HP.out]
      have BEL := Lib.hid bel
      clear bel
      go_wp2_with fail
      refine (sord_any w' HX.out (HA.out.keep BEL.out) hn HP.out).mono ?_
      rintro e w2 ⟨he, bel⟩
      obtain rfl : e = .returned (.int .i64 (ordO xs)) := he
      have BEL2 := Lib.hid bel
      clear bel
      go_wp2
      go_ret2
      exact ⟨rfl, BEL.out.trans (BEL2.out.mono BEL.out.size)⟩
    · have hr : ordR xs = (ordO xs : Int) := by simp [ordR, hp, hbig]
      have hc : ordC xs = 0 := by simp [ordC, hp, hbig]
      rw [hr, hc]
      have hbig2 : (ordO xs : Int) ≤ (1000000000000000 : Int) := by omega
      clear hp hr hc hbig
      go_enter Try.func22, Try.ntmps22
      go_wp2_with fail
      refine (perm_any w HX.out HA.out hn).mono ?_
      rintro e w' ⟨rfl, bel⟩
      rw [HP.out]
      have BEL := Lib.hid bel
      clear bel
      go_wp2_with fail
      refine (sord_any w' HX.out (HA.out.keep BEL.out) hn HP.out).mono ?_
      rintro e w2 ⟨he, bel⟩
      obtain rfl : e = .returned (.int .i64 (ordO xs)) := he
      have BEL2 := Lib.hid bel
      clear bel
      go_wp2
      go_ret2
      exact ⟨rfl, BEL.out.trans (BEL2.out.mono BEL.out.size)⟩
theorem iOrd_any {A : Option Addr} {c : Nat} {xs : List Int} {n : Nat} (w : World) (hx : xs.length = n) (ha : Rd w A (ints xs)) (hn : n ≤ 1048576) :
    Calls Try.prog 21 #[.slice A n c] w fun e w' => e = .returned (.tuple #[.int .i64 (ordR xs), .int .i64 (ordC xs)]) ∧ Below w.heap.size w w' := by
  have HX := Lib.hid hx
  have HA := Lib.hid ha
  clear hx ha
  cases hp : okP xs
  · have hr : ordR xs = 0 := by simp [ordR, hp]
    have hc : ordC xs = 1 := by simp [ordC, hp]
    rw [hr, hc]
    have HP := Lib.hid hp
    clear hp hr hc
    go_enter Try.func21, Try.ntmps21
    go_wp2_with fail
    refine (iperm_any w HX.out HA.out hn).mono ?_
    rintro e w' ⟨rfl, bel⟩
    rw [HP.out]
    have BEL := Lib.hid bel
    clear bel
    go_wp2
    go_ret2
    exact ⟨rfl, BEL.out⟩
  · have HP := Lib.hid hp
    clear hp
    go_enter Try.func21, Try.ntmps21
    go_wp2_with fail
    refine (iperm_any w HX.out HA.out hn).mono ?_
    rintro e w' ⟨rfl, bel⟩
    rw [HP.out]
    have BEL := Lib.hid bel
    clear bel
    go_wp2_with fail
    refine (iord_any w' HX.out (HA.out.keep BEL.out) hn HP.out).mono ?_
    rintro e w2 ⟨⟨hbig, rfl⟩ | ⟨hsm, rfl⟩, bel⟩
    · have hr := Lib.hid (show ordR xs = 0 by simp [ordR, HP.out, hbig])
      have hc := Lib.hid (show ordC xs = 3 by simp [ordC, HP.out, hbig])
      have BEL2 := Lib.hid bel
      clear bel hbig
      go_wp2
      go_ret2
      exact ⟨ret2_i64 hr.out.symm hc.out.symm, BEL.out.trans (BEL2.out.mono BEL.out.size)⟩
    · have hr := Lib.hid (show ordR xs = (ordO xs : Int) by simp [ordR, HP.out, show ¬ 1000000000000000 < ordO xs by omega])
      have hc := Lib.hid (show ordC xs = 0 by simp [ordC, HP.out, show ¬ 1000000000000000 < ordO xs by omega])
      have BEL2 := Lib.hid bel
      clear bel hsm
      go_wp2
      go_ret2
      exact ⟨ret2_i64 hr.out.symm hc.out.symm, BEL.out.trans (BEL2.out.mono BEL.out.size)⟩
end Go.Proofs.Ytbjfeogkdfmjpaa
