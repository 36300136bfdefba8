/- slices.Equal at []int64; twin flags of both programs. -/
import Derived.Test.YtdhcklfpammhkaaFg
namespace Go.Proofs.Ytdhcklfpammhkaa
open Go.RowKit

set_option maxHeartbeats 800000 in
theorem eqs_any {A B : Option Addr} {c d n : Nat} {xs ys : List Int} {r : Bool} (w : World) (hx : xs.length = n) (hy : ys.length = n) (ha : Rd w A (ints xs)) (hb : Rd w B (ints ys)) (hn : n ≤ 1048576) (hr : decide (xs = ys) = r) :
    Calls Try.prog 249 #[.slice A n c, .slice B n d] w fun e w' => e = .returned (.bool r) ∧ Below w.heap.size w w' := by
  have HX := Lib.hid hx
  have HY := Lib.hid hy
  have HA := Lib.hid ha
  have HB := Lib.hid hb
  have HR := Lib.hid hr
  have hnn : ((n : Int) != (n : Int)) = false := by simp
  clear hx hy ha hb hr
  go_enter Try.func249, Try.ntmps249
  go_wp2
  go_loopw [13] (fun v wr => ∃ k : Nat, k ≤ n ∧ v = .int .i64 k ∧ xs.take k = ys.take k ∧ Below w.heap.size w wr) (fun v _ => n - (intOf v).toNat)
  case atStart => exact ⟨0, Nat.zero_le _, rfl, by simp, Below.refl _ _⟩
  case round =>
    obtain ⟨k, hk, rfl, ht, bel⟩ := hrel
    have HT := Lib.hid ht
    have BE := Lib.hid bel
    clear ht bel
    by_cases hlt : k < n
    · obtain ⟨b1, o1, x, rfl, hgx, hcx⟩ := (HA.out.keep BE.out).int (k := k) (by rw [HX.out]; exact hlt)
      obtain ⟨b2, o2, y, rfl, hgy, hcy⟩ := (HB.out.keep BE.out).int (k := k) (by rw [HY.out]; exact hlt)
      have px := BelowOf.cell hcx
      have py := BelowOf.cell hcy
      have kI : (k : Int) < (n : Int) := by omega
      have kz : (0 : Int) ≤ (k : Int) := by omega
      have HGX := Lib.hid hgx
      have HGY := Lib.hid hgy
      clear hgx hgy hcx hcy
      by_cases he : x = y
      · have hne : (x != y) = false := by rw [he]; simp
        have HT2 := Lib.hid (show xs.take (k + 1) = ys.take (k + 1) by rw [take_succ_of HGX.out, take_succ_of HGY.out, HT.out, he])
        clear he
        go_wp2
        refine wp_region_quiet_below (by kernel_rfl) (by kernel_rfl) ?_
        repeat (go_big_quiet_step ((fail)))
        refine wpQuiet_nil ?_
        intro _ hw'
        obtain ⟨⟨wq, hbq⟩, hw''⟩ := hw'
        subst hw''
        have BE2 := Lib.hid (BE.out.trans (hbq.mono BE.out.size))
        clear hbq
        go_wp2
        go_roundw
        case rel => exact ⟨k + 1, by omega, by go_num, HT2.out, BE2.out⟩
        case measure => simp [intOf]; omega
      · have hne : (x != y) = true := by rw [bne_iff_ne]; exact he
        have HF := Lib.hid (show r = false from by
          rw [← HR.out, decide_eq_false_iff_not]
          intro h
          have h1 := HGX.out
          rw [h, HGY.out] at h1
          injection h1 with h1
          exact he h1.symm)
        clear he
        go_wp2
        refine wp_region_quiet_below (by kernel_rfl) (by kernel_rfl) ?_
        repeat (go_big_quiet_step ((fail)))
        refine wpQuiet_nil ?_
        intro _ hw'
        obtain ⟨⟨wq, hbq⟩, hw''⟩ := hw'
        subst hw''
        have BE2 := Lib.hid (BE.out.trans (hbq.mono BE.out.size))
        clear hbq
        go_wp2
        go_ret
        exact ⟨ret_bool HF.out.symm, BE2.out⟩
    · have HF := Lib.hid (show r = true from by
        rw [← HR.out, decide_eq_true_eq]
        have := HT.out
        rwa [List.take_of_length_le (by rw [HX.out]; omega), List.take_of_length_le (by rw [HY.out]; omega)] at this)
      go_wp2
      go_ret
      exact ⟨ret_bool HF.out.symm, BE.out⟩

/-- The flags f and g have the same faces of all N ranks. -/
def Tw (xss : List (List Int)) (n N f g : Nat) : Prop := ∀ i, i < N → (facL xss n i).getD f 0 = (facL xss n i).getD g 0
theorem tw_row {xss : List (List Int)} {n N f g : Nat} : fcRow xss n N f = fcRow xss n N g ↔ Tw xss n N f g := by
  constructor
  · intro h i hi
    have h1 : (fcRow xss n N f)[i]? = (fcRow xss n N g)[i]? := by rw [h]
    simp [fcRow, hi] at h1
    simpa using h1
  · intro h
    unfold fcRow
    apply List.map_congr_left
    intro i hi
    rw [h i (by simpa using hi)]
/-- The list is the first pair of twins. -/
def TwOk (xss : List (List Int)) (n N : Nat) (L : List Int) : Prop :=
  ∃ f g : Nat, L = [(f : Int), (g : Int)] ∧ f < g ∧ g < n ∧ Tw xss n N f g ∧ ∀ f' g' : Nat, f' < g' → g' < n → (f' < f ∨ (f' = f ∧ g' < g)) → ¬ Tw xss n N f' g'
theorem twOk_uniq {xss : List (List Int)} {n N : Nat} {L L' : List Int} (h : TwOk xss n N L) (h' : TwOk xss n N L') : L = L' := by
  obtain ⟨f, g, rfl, h1, h2, h3, h4⟩ := h
  obtain ⟨f', g', rfl, h5, h6, h7, h8⟩ := h'
  have a1 : ¬ (f' < f ∨ (f' = f ∧ g' < g)) := fun h => h4 f' g' h5 h6 h h7
  have a2 : ¬ (f < f' ∨ (f = f' ∧ g < g')) := fun h => h8 f g h1 h2 h h3
  obtain rfl : f = f' := by omega
  obtain rfl : g = g' := by omega
  rfl
open Classical in
noncomputable def twR (xss : List (List Int)) : List Int := if okMan xss = true then (if h : ∃ L, TwOk xss (flN xss) xss.length L then h.choose else []) else []
open Classical in
noncomputable def twC (xss : List (List Int)) : Int := if okMan xss = true then (if ∃ L, TwOk xss (flN xss) xss.length L then 0 else 4) else 1
theorem twR_no {xss : List (List Int)} (h : okMan xss = false) : twR xss = [] ∧ twC xss = 1 := by simp [twR, twC, h]
theorem twR_yes {xss : List (List Int)} {L : List Int} (h : okMan xss = true) (ht : TwOk xss (flN xss) xss.length L) : twR xss = L ∧ twC xss = 0 := by
  have he : ∃ L, TwOk xss (flN xss) xss.length L := ⟨L, ht⟩
  refine ⟨?_, ?_⟩
  · unfold twR
    rw [if_pos h, dif_pos he]
    exact twOk_uniq he.choose_spec ht
  · unfold twC
    rw [if_pos h, if_pos he]
theorem twR_none {xss : List (List Int)} (h : okMan xss = true) (ht : ∀ f g : Nat, f < g → g < flN xss → ¬ Tw xss (flN xss) xss.length f g) : twR xss = [] ∧ twC xss = 4 := by
  have he : ¬ ∃ L, TwOk xss (flN xss) xss.length L := fun ⟨L, f, g, _, h1, h2, h3, _⟩ => ht f g h1 h2 h3
  refine ⟨?_, ?_⟩
  · unfold twR
    rw [if_pos h, dif_neg he]
  · unfold twC
    rw [if_pos h, if_neg he]
theorem twR_le (xss : List (List Int)) : (twR xss).length ≤ 1048576 := by
  unfold twR
  split
  · split
    · rename_i h
      obtain ⟨f, g, h1, _⟩ := h.choose_spec
      rw [h1]; simp
    · simp
  · simp
end Go.Proofs.Ytdhcklfpammhkaa
