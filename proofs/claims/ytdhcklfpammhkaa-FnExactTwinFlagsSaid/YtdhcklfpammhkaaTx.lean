/- Twin flags: impl. -/
import Derived.Test.YtdhcklfpammhkaaTw
namespace Go.Proofs.Ytdhcklfpammhkaa
open Go.RowKit

def TwPost (w : World) (xss : List (List Int)) (n N : Nat) (e : Ending) (w' : World) : Prop :=
  (∃ L, TwOk xss n N L ∧ L.length = 2 ∧ Ret1 w L e w') ∨ ((∀ f g : Nat, f < g → g < n → ¬ Tw xss n N f g) ∧ e = .returned (.slice none 0 0) ∧ Below w.heap.size w w')
theorem cn_bd {xss : List (List Int)} {n i : Nat} (hsys : okSys n xss = true) (hn : 0 < n) : 1 ≤ cN xss n i ∧ cN xss n i ≤ n := by
  have h1 := grt_fac (i := i) hsys
  have h2 : grtL (facL xss n i) = mxL (facL xss n i) + 1 := grtL_lab (okSys_erase hsys i) hn
  have h3 : 0 ≤ mxL (facL xss n i) := (mxL_lab (okSys_erase hsys i)).1
  unfold cN
  omega

set_option maxHeartbeats 3200000 in
theorem itw_any {b o c N n c0 : Nat} {A0 : Option Addr} {xss : List (List Int)} (w : World) (hx : xss.length = N) (ha : RdSS w (some ⟨b, o, none⟩) xss) (hsys : okSys n xss = true) (h0 : w.cell? ⟨b, o, none⟩ = some (.slice A0 n c0)) (hpos : 0 < N) (hcap : N ≤ c) (hc63 : c ≤ 9223372036854775807) (hn : 0 < n) (hN5 : N ≤ 5) (hn4 : n ≤ 400) :
    Calls Try.prog 195 #[.agg #[.slice (some ⟨b, o, none⟩) N c]] w (TwPost w xss n N) := by
  have HX := Lib.hid hx
  have HA := Lib.hid ha
  have HS := Lib.hid hsys
  have HC0 := Lib.hid h0
  have HCN := Lib.hid (show ∀ i, i < N → 1 ≤ cN xss n i ∧ cN xss n i ≤ n from fun i _ => cn_bd hsys hn)
  have BX0 := Lib.hid (Bx.start w (.slice (some ⟨b, o, none⟩) N c) 51)
  have hbc := BX0.out.cell
  clear hx ha hsys h0
  go_enter Try.func195, Try.ntmps195
  go_wp2_with fail
  refine (ifof_any _ HX.out (HA.out.keep BX0.out.below) HS.out (cell_be HC0.out BX0.out.below) hpos hcap hc63 hn hN5 hn4 HCN.out).mono ?_
  rintro e w1 ⟨A, c1, A5, c5, rfl, own, own5, bel⟩
  obtain ⟨rows, hrows⟩ : ∃ rows, rows = (List.range n).map fun (f : Nat) => fcRow xss n N f := ⟨_, rfl⟩
  have hrl : rows.length = n := by rw [hrows]; simp
  have hra : ∀ f : Nat, f < n → rows[f]? = some (fcRow xss n N f) := fun f hf => by rw [hrows]; simp [hf]
  rw [← hrows] at own ⊢
  rw [hrl] at own ⊢
  have HRL := Lib.hid hrl
  have HRA := Lib.hid hra
  have RD := Lib.hid (ownSS_rd own)
  have BX1 := Lib.hid (BX0.out.go bel)
  clear own own5 bel hbc hrows hrl hra
  go_wp2
  go_loopw [14] (fun v wr => ∃ f : Nat, f ≤ n ∧ v = .int .i64 f ∧ (∀ f' g' : Nat, f' < f → f' < g' → g' < n → ¬ Tw xss n N f' g') ∧ Below w1.heap.size w1 wr) (fun v _ => n - (intOf v).toNat)
  case atStart => exact ⟨0, Nat.zero_le _, rfl, fun f' g' h => absurd h (by omega), Below.refl _ _⟩
  case round =>
    obtain ⟨f, hf, rfl, hno, bel⟩ := hrel
    have NO := Lib.hid hno
    have B1 := Lib.hid bel
    clear hno bel
    by_cases hfn : f < n
    · go_wp2
      go_loopw [6] (fun v wr => ∃ g : Nat, f + 1 ≤ g ∧ g ≤ n ∧ v = .int .i64 g ∧ (∀ g' : Nat, f < g' → g' < g → ¬ Tw xss n N f g') ∧ Below w1.heap.size w1 wr) (fun v _ => n - (intOf v).toNat)
      case atStart => exact ⟨f + 1, Nat.le_refl _, by omega, by go_num, fun g' h1 h2 => by omega, B1.out⟩
      case round =>
        obtain ⟨g, hg1, hg, rfl, hno2, bel⟩ := hrel
        have NO2 := Lib.hid hno2
        have B2 := Lib.hid bel
        clear hno2 bel
        by_cases hgn : g < n
        · obtain ⟨b1, o1, A1, c2, r1, rfl, hg1', hc1, hr1, hm1⟩ := (RD.out.keep B2.out).row (k := f) (by rw [HRL.out]; exact hfn)
          obtain ⟨b2, o2, A2, c3, r2, he, hg2', hc2, hr2, hm2⟩ := (RD.out.keep B2.out).row (k := g) (by rw [HRL.out]; exact hgn)
          obtain ⟨rfl, rfl⟩ : b1 = b2 ∧ o1 = o2 := by simpa using he
          obtain rfl : r1 = fcRow xss n N f := by rw [HRA.out f hfn] at hg1'; injection hg1' with h; exact h.symm
          obtain rfl : r2 = fcRow xss n N g := by rw [HRA.out g hgn] at hg2'; injection hg2' with h; exact h.symm
          rw [fcRow_len] at hc1 hc2 hm1 hm2
          have R1 := Lib.hid hr1
          have R2 := Lib.hid hr2
          have p1 := BelowOf.cell hc1
          have p2 := BelowOf.cell hc2
          have fI : (f : Int) < (n : Int) := by omega
          have gI : (g : Int) < (n : Int) := by omega
          clear he hg1' hg2' hr1 hr2 hc1 hc2
          cases hr : decide (fcRow xss n N f = fcRow xss n N g)
          · have HR := Lib.hid hr
            have NO3 := Lib.hid (show ∀ g' : Nat, f < g' → g' < g + 1 → ¬ Tw xss n N f g' from fun g' h1 h2 => by
              rcases Nat.lt_succ_iff_lt_or_eq.1 h2 with h | rfl
              · exact NO2.out g' h1 h
              · exact fun h => of_decide_eq_false hr (tw_row.2 h))
            clear hr
            go_wp2
            refine wp_region_quiet_below (by kernel_rfl) (by kernel_rfl) ?_
            repeat (go_big_quiet_step ((go_at_call 249; exact Calls.below_of (eqs_any _ fcRow_len fcRow_len (R1.out.keep (BelowOf.h _)) (R2.out.keep (BelowOf.h _)) (by omega) HR.out))))
            refine wpQuiet_nil ?_
            intro wq hw'
            obtain ⟨⟨wv, hbq⟩, hw''⟩ := hw'
            subst hw''
            have B3 := Lib.hid (B2.out.trans (hbq.mono B2.out.size))
            clear hbq
            go_wp2
            go_roundw
            case rel => exact ⟨g + 1, by omega, by omega, by go_num, NO3.out, B3.out⟩
            case measure => simp [intOf]; omega
          · have HR := Lib.hid hr
            have OKL := Lib.hid (show TwOk xss n N [(f : Int), (g : Int)] from ⟨f, g, rfl, by omega, hgn, tw_row.1 (of_decide_eq_true hr), fun f' g' h1 h2 h3 => by
              rcases h3 with h3 | ⟨rfl, h3⟩
              · exact NO.out f' g' h3 h1 h2
              · exact NO2.out g' h1 h3⟩)
            clear hr
            go_wp2
            refine wp_region_quiet_below (by kernel_rfl) (by kernel_rfl) ?_
            repeat (go_big_quiet_step ((go_at_call 249; exact Calls.below_of (eqs_any _ fcRow_len fcRow_len (R1.out.keep (BelowOf.h _)) (R2.out.keep (BelowOf.h _)) (by omega) HR.out))))
            refine wpQuiet_nil ?_
            intro wq hw'
            obtain ⟨⟨wv, hbq⟩, hw''⟩ := hw'
            subst hw''
            have B3 := Lib.hid (BX1.out.below.trans ((B2.out.trans (hbq.mono B2.out.size)).mono BX1.out.below.size))
            clear hbq
            go_wp2
            go_ret
            refine .inl ⟨[(f : Int), (g : Int)], OKL.out, rfl, some ⟨wq.heap.size, 0, none⟩, 2, rfl, ?_, B3.out.trans ((below1 wq _).mono B3.out.size)⟩
            have h2 := World.ownsRow_lit (base := w.heap.size) (e := 2) (size := 1) wq #[.int .i64 (f : Int), .int .i64 (g : Int)] 2 B3.out.size (by decide) (by simp)
            simpa using h2
        · obtain rfl : g = n := by omega
          have NO3 := Lib.hid (show ∀ f' g' : Nat, f' < f + 1 → f' < g' → g' < g → ¬ Tw xss g N f' g' from fun f' g' h1 h2 h3 => by
            rcases Nat.lt_succ_iff_lt_or_eq.1 h1 with h | rfl
            · exact NO.out f' g' h h2 h3
            · exact NO2.out g' h2 h3)
          go_wp2
          go_roundw
          case rel => exact ⟨f + 1, by omega, by go_num, NO3.out, B2.out⟩
          case measure => simp [intOf]; omega
    · have NO3 := Lib.hid (show ∀ f g : Nat, f < g → g < n → ¬ Tw xss n N f g from fun f' g' h1 h2 => NO.out f' g' (by omega) h1 h2)
      have B3 := Lib.hid (BX1.out.below.trans (B1.out.mono BX1.out.below.size))
      go_wp2
      go_ret
      exact .inr ⟨NO3.out, rfl, B3.out⟩
end Go.Proofs.Ytdhcklfpammhkaa
