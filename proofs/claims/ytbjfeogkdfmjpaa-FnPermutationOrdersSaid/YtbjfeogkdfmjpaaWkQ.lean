import Derived.Test.YtbjfeogkdfmjpaaWkP
namespace Go.Proofs.Ytbjfeogkdfmjpaa
open Go.RowKit

/-- The least common multiple of the numbers, one after the other, or one more than the limit as soon as it is passed. -/
def ordF : List Int → Nat → Nat
  | [], o => o
  | x :: r, o => if 1000000000000000 < o / Nat.gcd o x.toNat * x.toNat then 1000000000000001 else ordF r (o / Nat.gcd o x.toNat * x.toNat)
theorem ordF_step {l : List Int} {k o x : Nat} (h : l[k]? = some (x : Int)) : ordF (l.drop k) o = if 1000000000000000 < o / Nat.gcd o x * x then 1000000000000001 else ordF (l.drop (k + 1)) (o / Nat.gcd o x * x) := by
  have hk := (List.getElem?_eq_some_iff.1 h).1
  have hx := (List.getElem?_eq_some_iff.1 h).2
  rw [List.drop_eq_getElem_cons hk, ordF, hx]
  simp
theorem step_bound {o x : Nat} (ho : o ≤ 1000000000000000) (hx : x ≤ 400) : o / Nat.gcd o x * x ≤ 400000000000000000 := by
  have h1 : o / Nat.gcd o x ≤ o := Nat.div_le_self _ _
  have h2 : o / Nat.gcd o x * x ≤ o * 400 := Nat.mul_le_mul h1 hx
  omega
theorem step_other {o x : Nat} : o * (x / Nat.gcd o x) = o / Nat.gcd o x * x := by
  rw [← Nat.mul_div_assoc o (Nat.gcd_dvd_right o x), Nat.div_mul_right_comm (Nat.gcd_dvd_left o x) x]
/-- Each length of a cycle is at least 1 and at most the number of points. -/
theorem cyc_bounds {xs : List Int} {n : Nat} (hxn : xs.length = n) (hok : okP xs = true) : ∀ k, k ≤ n → ∀ c ∈ cycTo xs n k, 1 ≤ c.length ∧ c.length ≤ n
  | 0, _ => by simp [cycTo]
  | k + 1, hk => by
    have ih := cyc_bounds hxn hok k (by omega)
    have hp := cycTo_passed hxn hok (k + 1) hk
    by_cases h : (k : Int) ∈ (cycTo xs n k).flatten
    · rw [cycTo_in h]; exact ih
    · have hps := cycTo_passed hxn hok k (by omega)
      rw [cycTo_out h] at hp ⊢
      intro c hc
      rcases List.mem_append.1 hc with h1 | h1
      · exact ih c h1
      · have h1 : c = trail xs (cycTo xs n k).flatten (n - (cycTo xs n k).flatten.length) [] k := List.mem_singleton.1 h1
        have h2 := passed_len hp
        rw [← h1, List.flatten_append, List.length_append] at h2
        have h5 : [c].flatten.length = c.length := by simp
        refine ⟨?_, by omega⟩
        have hx : xs[k]? = some xs[k] := List.getElem?_eq_getElem (by omega)
        obtain ⟨q, hq, _⟩ := okP_at hok hxn hx
        have h3 := trail_out (xs := xs) (vis := (cycTo xs n k).flatten) (cur := []) (n := n) (p := k) (q := q) (by simpa using hps) (by omega) (by simpa using h) (by rw [hx, hq])
        have h4 := trail_le xs (cycTo xs n k).flatten (n - ((cycTo xs n k).flatten ++ ([] ++ [(k : Int)])).length) ([] ++ [(k : Int)]) q
        rw [← h3] at h4
        simp only [List.append_nil] at h4
        rw [← h1] at h4
        simpa using h4
theorem lens_bounds {xs : List Int} (hok : okP xs = true) {k : Nat} {x : Int} (h : (lensL xs)[k]? = some x) : ∃ l : Nat, x = (l : Int) ∧ 1 ≤ l ∧ l ≤ 400 := by
  have h1 : x ∈ lensL xs := mem_of_get h
  have h2 : x ∈ lenL xs := (sortL_perm _).mem_iff.1 h1
  obtain ⟨c, hc, rfl⟩ := List.mem_map.1 h2
  have h3 := cyc_bounds rfl hok xs.length (Nat.le_refl _) c hc
  have h4 := (of_decide_eq_true hok).1
  exact ⟨c.length, rfl, h3.1, by omega⟩

theorem ord_wrap {o g l : Nat} (ho : o ≤ 1000000000000000) (hb : o / g * l ≤ 400000000000000000) : wrap64 (wrap64 ((o : Int) / (g : Int)) * (l : Int)) = ((o / g * l : Nat) : Int) := by
  have h1 : o / g ≤ o := Nat.div_le_self _ _
  have e1 : ((o : Int) / (g : Int)) = ((o / g : Nat) : Int) := (Int.natCast_ediv o g).symm
  rw [e1]
  generalize o / g = q at *
  rw [IntWalk.wrap64_in (q : Int) (by omega), ← Int.natCast_mul, IntWalk.wrap64_in _ (by omega)]
theorem ord_wrap2 {o g l : Nat} (hl : l ≤ 400) (hb : o * (l / g) ≤ 400000000000000000) : wrap64 ((o : Int) * wrap64 ((l : Int) / (g : Int))) = ((o * (l / g) : Nat) : Int) := by
  have h1 : l / g ≤ l := Nat.div_le_self _ _
  have e1 : ((l : Int) / (g : Int)) = ((l / g : Nat) : Int) := (Int.natCast_ediv l g).symm
  rw [e1]
  generalize l / g = q at *
  rw [IntWalk.wrap64_in (q : Int) (by omega), ← Int.natCast_mul, IntWalk.wrap64_in _ (by omega)]
theorem sgcd_eq (a b g : Nat) (w : World) (hg : Nat.gcd a b = g) (ha : a ≤ 1000000000000000000) (hb : b ≤ 1000000000000000000) :
    Calls Try.prog 105 #[.int .i64 a, .int .i64 b] w fun e w' => e = .returned (.int .i64 g) ∧ w' = w := by rw [← hg]; exact sgcd_any a b w ha hb
theorem igcd_eq (a b g : Nat) (w : World) (hg : Nat.gcd a b = g) (ha : a ≤ 1000000000000000000) (hb : b ≤ 1000000000000000000) :
    Calls Try.prog 104 #[.int .i64 a, .int .i64 b] w fun e w' => e = .returned (.int .i64 g) ∧ ∃ j, w' = w.drewN j := by rw [← hg]; exact igcd_any a b w ha hb
set_option maxHeartbeats 1600000 in
theorem sord_any {A : Option Addr} {c n : Nat} {xs : List Int} (w : World) (hx : xs.length = n) (ha : Rd w A (ints xs)) (hn : n ≤ 1048576) (hp : okP xs = true) :
    Calls Try.prog 72 #[.slice A n c] w fun e w' => e = .returned (.int .i64 (ordF (lensL xs) 1)) ∧ Below w.heap.size w w' := by
  have HX := Lib.hid hx
  have HA := Lib.hid ha
  have HP := Lib.hid hp
  have hl : (lensL xs).length ≤ n := by rw [lensL_length]; have := cycL_le xs; omega
  obtain ⟨m, hm⟩ : ∃ m, (lensL xs).length = m := ⟨_, rfl⟩
  rw [hm] at hl
  have HM := Lib.hid hm
  clear hx ha hp hm
  go_enter Try.func72, Try.ntmps72
  go_wp2_with fail
  refine (slens_any w HX.out HA.out hn HP.out).mono ?_
  rintro e w1 ⟨A1, c1, rfl, own, bel⟩
  rw [HM.out] at own ⊢
  have OWN := Lib.hid own
  have BEL := Lib.hid bel
  clear own bel
  go_wp2
  go_loopw [4, 5] (fun p q wr => ∃ k o : Nat, k ≤ m ∧ q = .int .i64 k ∧ p = .int .i64 o ∧ 1 ≤ o ∧ o ≤ 1000000000000000 ∧ ordF ((lensL xs).drop k) o = ordF (lensL xs) 1 ∧ Below w1.heap.size w1 wr) (fun _ q _ => m - (intOf q).toNat)
  case atStart => exact ⟨0, 1, Nat.zero_le _, rfl, rfl, by omega, by omega, by simp, Below.refl _ _⟩
  case round =>
    obtain ⟨k, o, hk, rfl, rfl, ho1, ho2, hord, bel2⟩ := hrel
    have ORD := Lib.hid hord
    have BEL2 := Lib.hid bel2
    clear hord bel2
    by_cases hlt : k < m
    · obtain ⟨b, oo, x, rfl, hgx, hcx⟩ := ((own_rd OWN.out).keep BEL2.out).int (k := k) (by rw [HM.out]; exact hlt)
      obtain ⟨l, rfl, hl1, hl2⟩ := lens_bounds HP.out hgx
      have hst := ordF_step (o := o) hgx
      rw [ORD.out] at hst
      have ST := Lib.hid hst
      have hbd := step_bound ho2 hl2
      obtain ⟨g, hg⟩ : ∃ g, Nat.gcd o l = g := ⟨_, rfl⟩
      have hgp : 0 < g := by rw [← hg]; exact Nat.gcd_pos_of_pos_left _ (by omega)
      have hgo : g ≤ o := by rw [← hg]; exact Nat.gcd_le_left _ (by omega)
      rw [hg] at hbd
      have HG := Lib.hid hg
      have HBD := Lib.hid hbd
      clear hgx hst hg hbd
      have hz : ((g : Int) == 0) = false := by rw [beq_eq_false_iff_ne]; omega
      go_wp2
      go_quiet ((go_at_call 105; exact Calls.quiet_of_same (sgcd_eq o l g _ HG.out (by omega) (by omega))))
      have EW := Lib.hid (ord_wrap (o := o) (g := g) (l := l) ho2 HBD.out)
      have hs : ordF (lensL xs) 1 = if 1000000000000000 < o / g * l then 1000000000000001 else ordF ((lensL xs).drop (k + 1)) (o / g * l) := by rw [ST.out, HG.out]
      have HS := Lib.hid hs
      have hpos : 1 ≤ o / g * l := Nat.mul_pos (Nat.div_pos hgo hgp) hl1
      have HPOS := Lib.hid hpos
      clear hs hpos
      go_wp2
      · have h : (1000000000000000 : Int) < wrap64 (wrap64 ((o : Int) / (g : Int)) * (l : Int)) := by assumption
        rw [EW.out] at h
        have h2 := HS.out
        rw [if_pos (by omega)] at h2
        go_ret
        exact ⟨ret_i64 (by rw [h2]; rfl), below_drewN (BEL.out.trans (BEL2.out.mono BEL.out.size)) _⟩
      · have h : wrap64 (wrap64 ((o : Int) / (g : Int)) * (l : Int)) ≤ (1000000000000000 : Int) := by assumption
        rw [EW.out] at h
        have h2 := HS.out
        rw [if_neg (by omega)] at h2
        go_roundw
        case rel => exact ⟨k + 1, o / g * l, by omega, by go_num, by rw [EW.out], HPOS.out, by omega, h2.symm, below_drewN BEL2.out _⟩
        case measure => simp [intOf]; omega
    · go_wp2
      go_ret
      have h := ORD.out
      rw [List.drop_of_length_le (by rw [HM.out]; omega)] at h
      exact ⟨ret_i64 (by rw [← h]; rfl), BEL.out.trans (BEL2.out.mono BEL.out.size)⟩
end Go.Proofs.Ytbjfeogkdfmjpaa
