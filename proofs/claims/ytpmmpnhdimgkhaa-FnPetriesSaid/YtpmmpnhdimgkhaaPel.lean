/- spec.PetrieLengths. -/
import Derived.Test.YtpmmpnhdimgkhaaL15
import Derived.Test.YtpmmpnhdimgkhaaL14
namespace Go.Proofs.Ytpmmpnhdimgkhaa
open Go.RowKit

/-- How often one still has to go until one is back. -/
def retTo (xs : List Int) (f : Int) : Nat → Int → Nat
  | 0, _ => 0
  | t + 1, g => if g = f then 0 else 1 + retTo xs f t (fz xs g)
def perL (xs : List Int) : List Int := (List.range xs.length).map fun (f : Nat) => ((1 + retTo xs (f : Int) (xs.length - 1) (fz xs (f : Int)) : Nat) : Int)
def nums (N : Nat) : List Int := (List.range N).map fun (j : Nat) => (j : Int)
theorem nums_len (N : Nat) : (nums N).length = N := by simp [nums]
theorem nums_succ {N k : Nat} (h : k < N) : (nums N).take (k + 1) = (nums N).take k ++ [(k : Int)] := by
  rw [List.take_add_one]
  simp [nums, h]
theorem nums_ok {xss : List (List Int)} {N : Nat} (hx : xss.length = N) : wordOk xss (nums N) = true := decide_eq_true fun x h => by
  obtain ⟨j, hj, rfl⟩ := List.mem_map.1 h
  have := List.mem_range.1 hj
  omega
theorem perL_len (xs : List Int) : (perL xs).length = xs.length := by simp [perL]
theorem perL_succ {xs : List Int} {n f : Nat} (hn : xs.length = n) (h : f < n) : (perL xs).take (f + 1) = (perL xs).take f ++ [((1 + retTo xs (f : Int) (n - 1) (fz xs (f : Int)) : Nat) : Int)] := by
  rw [List.take_add_one]
  simp [perL, hn, h]
/-- On the way: k flags passed, the first of them f, and g comes next. -/
structure Way (xs : List Int) (n : Nat) (f : Int) (k : Nat) (g : Int) : Prop where
  go : ∃ cur : List Int, cur.length = k ∧ cur[0]? = some f ∧ Passed n cur ∧ Chain xs cur g
  left : k + retTo xs f (n - k) g = 1 + retTo xs f (n - 1) (fz xs f)
  k0 : 0 < k
  g0 : 0 ≤ g ∧ g < (n : Int)
section
variable {xs : List Int} {n k : Nat} {f g : Int}
theorem way_start (hxn : xs.length = n) (hok : okP xs = true) (h0 : 0 ≤ f) (h1 : f < (n : Int)) : Way xs n f 1 (fz xs f) := by
  obtain ⟨f, rfl⟩ := Int.eq_ofNat_of_zero_le h0
  refine ⟨⟨[(f : Int)], rfl, rfl, by simpa using passed_snoc (passed_nil n) (show f < n by omega) (by simp), ?_⟩, rfl, by omega, fz_in hxn hok h0 h1⟩
  simpa using chain_snoc (chain_nil xs (f : Int))
theorem way_le (h : Way xs n f k g) : k ≤ n := by
  obtain ⟨cur, h1, _, h3, _⟩ := h.go
  have := passed_len h3
  omega
theorem way_out (hxn : xs.length = n) (hok : okP xs = true) (h : Way xs n f k g) (hne : g ≠ f) : ∃ cur : List Int, cur.length = k ∧ cur[0]? = some f ∧ Passed n (cur ++ [g]) ∧ Chain xs cur g := by
  obtain ⟨cur, h1, h2, h3, h4⟩ := h.go
  have hgb := h.g0
  obtain ⟨g, rfl⟩ := Int.eq_ofNat_of_zero_le hgb.1
  refine ⟨cur, h1, h2, passed_snoc h3 (by omega) fun hm => ?_, h4⟩
  obtain ⟨i, hi, hig⟩ := List.mem_iff_getElem.1 hm
  have hk0 := h.k0
  cases i with
  | zero =>
    rw [List.getElem?_eq_getElem hi, hig] at h2
    injection h2 with h2
    exact hne h2
  | succ i =>
    have a1 : cur[i]? = some (cur[i]'(by omega)) := List.getElem?_eq_getElem (by omega)
    have a2 := h4 i _ a1
    rw [List.getElem?_append_left (by omega), List.getElem?_eq_getElem hi, hig] at a2
    have b1 : cur[k - 1]? = some (cur[k - 1]'(by omega)) := List.getElem?_eq_getElem (by omega)
    have b2 := h4 (k - 1) _ b1
    rw [show k - 1 + 1 = cur.length by omega, List.getElem?_append_right (Nat.le_refl _)] at b2
    simp at b2
    injection a2 with a2
    have c1 := h3.1 _ (List.mem_of_getElem? a1)
    have c2 := h3.1 _ (List.mem_of_getElem? b1)
    have := fz_inj hxn hok c1.1 c1.2 c2.1 c2.2 (a2.symm.trans b2)
    have := (List.getElem_inj h3.2).1 this
    omega
theorem way_lt (hxn : xs.length = n) (hok : okP xs = true) (h : Way xs n f k g) (hne : g ≠ f) : k < n := by
  obtain ⟨cur, h1, _, h3, _⟩ := way_out hxn hok h hne
  have := passed_len h3
  simp at this
  omega
theorem way_step (hxn : xs.length = n) (hok : okP xs = true) (h : Way xs n f k g) (hne : g ≠ f) : Way xs n f (k + 1) (fz xs g) := by
  have hlt := way_lt hxn hok h hne
  obtain ⟨cur, h1, h2, h3, h4⟩ := way_out hxn hok h hne
  have hl := h.left
  rw [show n - k = (n - (k + 1)) + 1 by omega, retTo, if_neg hne] at hl
  refine ⟨⟨cur ++ [g], by simp [h1], ?_, h3, chain_snoc h4⟩, by omega, by omega, fz_in hxn hok h.g0.1 h.g0.2⟩
  rw [List.getElem?_append_left (by have := h.k0; omega)]
  exact h2
theorem way_end (h : Way xs n f k f) : k = 1 + retTo xs f (n - 1) (fz xs f) := by
  have hl := h.left
  cases hm : n - k with
  | zero => rw [hm, retTo] at hl; omega
  | succ t => rw [hm, retTo, if_pos rfl] at hl; omega
end
noncomputable def plR (xss : List (List Int)) : List Int := if okMan xss = true then perL (wpL xss (flN xss) (nums xss.length)) else []
noncomputable def plC (xss : List (List Int)) : Int := if okMan xss = true then 0 else 1
theorem fz_wp {xss : List (List Int)} {n : Nat} {wd : List Int} {g : Int} (h0 : 0 ≤ g) (h1 : g < (n : Int)) : fz (wpL xss n wd) g = runW xss g wd := by
  obtain ⟨g, rfl⟩ := Int.eq_ofNat_of_zero_le h0
  refine fz_at ?_
  simp [wpL, show g < n by omega]

set_option maxHeartbeats 3200000 in
set_option maxRecDepth 8000 in
theorem sPetrieLengths_any {A : Option Addr} {c N : Nat} {xss : List (List Int)} (w : World) (hx : xss.length = N) (ha : RdSS w A xss) (hN : N ≤ 1048576) (hr : ∀ xs ∈ xss, (xs.length : Int) ≤ 1048576) :
    Calls Try.prog 72 #[.agg #[.slice A N c]] w (RetS w (plR xss) (plC xss)) := by
  have HX := Lib.hid hx
  have HA := Lib.hid ha
  have HR := Lib.hid hr
  have st0 := (St.start w).addBlk #[.slice A N c] 42
  have S0 := Lib.hid st0
  have hbc := (st0.blk (i := 0) rfl).cell (i := 0) rfl
  clear st0
  cases ho : okMan xss
  · have h1 : plR xss = [] := by simp [plR, ho]
    have h2 : plC xss = 1 := by simp [plC, ho]
    rw [h1, h2]
    have HO := Lib.hid ho
    clear hx ha hr ho h1 h2
    go_enter Try.func72, Try.ntmps72
    go_wp2_with fail
    refine (sIs_any _ HX.out (HA.out.keep S0.out.below) hN HR.out).mono ?_
    rintro e w1 ⟨rfl, bel⟩
    rw [HO.out]
    have S1 := Lib.hid (S0.out.go bel)
    clear bel hbc
    go_wp2
    go_ret2
    exact ⟨none, 0, rfl, World.ownsRow_nil _ _ _ _, S1.out.below⟩
  · have hman := okMan_iff.1 ho
    have hsys := hman.sys
    have hn2 := hman.f2
    have hn4 := hman.f4
    have hN5 := hman.r5
    have hpos := hman.pos hx
    rw [hx] at hN5
    obtain ⟨b, o, A0, c0, rfl, hc0⟩ := man_row0 hman ha
    obtain ⟨n, hn⟩ : ∃ n, flN xss = n := ⟨_, rfl⟩
    obtain ⟨p, hp⟩ : ∃ p, wpL xss n (nums N) = p := ⟨_, rfl⟩
    rw [hn] at hc0 hsys hn2 hn4
    have h1 : plR xss = perL p := by simp [plR, ho, hn, hx, hp]
    have h2 : plC xss = 0 := by simp [plC, ho]
    have hpl : p.length = n := by rw [← hp, wpL_len]
    have hpo : okP p = true := by rw [← hp]; exact wpL_ok hsys (nums_ok hx)
    have hrun : ∀ g : Nat, g < n → runW xss (g : Int) (nums N) = fz p (g : Int) := fun g hg => by rw [← hp, fz_wp (by omega) (by omega)]
    have hlen : (perL p).length = n := by rw [perL_len, hpl]
    rw [h1, h2]
    have HC0 := Lib.hid hc0
    have HS := Lib.hid hsys
    have HO := Lib.hid ho
    have HPL := Lib.hid hpl
    have HPO := Lib.hid hpo
    have HRUN := Lib.hid hrun
    have HLEN := Lib.hid hlen
    have HWO := Lib.hid (nums_ok hx)
    clear hx ha hr ho hman hn hc0 hsys h1 h2 hp hpl hpo hrun hlen
    go_enter Try.func72, Try.ntmps72
    go_wp2_with fail
    refine (sIs_any _ HX.out (HA.out.keep S0.out.below) hN HR.out).mono ?_
    rintro e w1 ⟨rfl, bel⟩
    rw [HO.out]
    have S1 := Lib.hid (((S0.out.go bel).addMade 2).addMade 2)
    clear bel hbc
    go_wp2
    go_loopw [4, 6] (fun u v wr => ∃ (k c4 : Nat) (A4 : Option Addr), k ≤ N ∧ u = .slice A4 k c4 ∧ v = .int .i64 k ∧ St w wr [.blk w.heap.size #[.slice (some ⟨b, o, none⟩) N c] 42, .own 2 A4 k c4 (ints ((nums N).take k)), .own 2 (some ⟨w1.heap.size + 1, 0, none⟩) 0 0 []]) (fun _ v _ => N - (intOf v).toNat)
    case atStart => exact ⟨0, 0, _, Nat.zero_le _, rfl, rfl, by simpa using S1.out⟩
    case round =>
      obtain ⟨k, c4, A4, hk, rfl, rfl, st⟩ := hrel
      clear S1
      have hbc := (st.blk (i := 0) rfl).cell (i := 0) rfl
      by_cases hkN : k < N
      · have hlo := st.lo
        have HSU := Lib.hid (nums_succ hkN)
        have S3 := Lib.hid st
        have kI : (k : Int) < (N : Int) := by omega
        clear st
        go_wp2_with (at_builtin; refine wpList_push_at _ rfl _ _ 33 2 rfl Try.underlying33 (.int .i64 0) 8 Try.info2 rfl w.heap.size _ _ _ rfl (S3.out.own (i := 1) rfl) _ rfl rfl (by omega) (by omega) hlo ?_)
        intro A7 c7 w7 own7 gr7 hat7
        have own8 : w7.ownsRow w.heap.size 2 1 (.slice A7 (k + 1) c7) (k + 1) (ints ((nums N).take (k + 1))) := by
          rw [HSU.out]
          simpa [ints] using own7
        have S7 := Lib.hid (S3.out.push (i := 1) rfl own8 gr7 hat7)
        clear own7 own8 gr7 hat7 hbc
        go_wp2
        go_roundw
        case rel => exact ⟨k + 1, _, _, by omega, rfl, by go_num, S7.out⟩
        case measure => simp [intOf]; omega
      · obtain rfl : k = N := by omega
        rw [List.take_of_length_le (l := nums k) (by rw [nums_len]; exact Nat.le_refl _)] at st
        have S3 := Lib.hid st
        clear st
        go_wp2
        clear hbc
        go_loopw [5, 7] (fun u v wr => ∃ (f c6 : Nat) (A6 : Option Addr), f ≤ n ∧ u = .slice A6 f c6 ∧ v = .int .i64 f ∧ St w wr [.blk w.heap.size #[.slice (some ⟨b, o, none⟩) k c] 42, .own 2 A4 k c4 (ints (nums k)), .own 2 A6 f c6 (ints ((perL p).take f))]) (fun _ v _ => n - (intOf v).toNat)
        case atStart => exact ⟨0, 0, _, Nat.zero_le _, rfl, rfl, S3.out⟩
        case round =>
          obtain ⟨f, c6, A6, hf, rfl, rfl, st⟩ := hrel
          clear S3
          have hbc := (st.blk (i := 0) rfl).cell (i := 0) rfl
          have S4 := Lib.hid st
          clear st
          go_wp2_with fail
          refine (sFlags_bel _ hpos (cell_be HC0.out S4.out.below)).mono ?_
          rintro e wa ⟨rfl, bel⟩
          have S5 := Lib.hid (S4.out.go bel)
          clear bel hbc S4
          have hbc := (S5.out.blk (i := 0) rfl).cell (i := 0) rfl
          by_cases hfn : f < n
          · have fI : (f : Int) < (n : Int) := by omega
            go_wp2_with fail
            refine (sRunL_bel f _ HX.out (HA.out.keep S5.out.below) HS.out (nums_len k) (own_rd (S5.out.own (i := 1) rfl)) hN hfn HWO.out).mono ?_
            rintro e wb ⟨rfl, bel⟩
            rw [HRUN.out f hfn]
            have S6 := Lib.hid (S5.out.go bel)
            have W0 := Lib.hid (way_start HPL.out HPO.out (show 0 ≤ (f : Int) by omega) fI)
            clear bel hbc S5
            go_wp2
            go_loopw [8, 9] (fun u v wr => ∃ (m g : Nat), u = .int .i64 m ∧ v = .int .i64 g ∧ Way p n (f : Int) m (g : Int) ∧ St w wr [.blk w.heap.size #[.slice (some ⟨b, o, none⟩) k c] 42, .own 2 A4 k c4 (ints (nums k)), .own 2 A6 f c6 (ints ((perL p).take f))]) (fun u _ _ => n - (intOf u).toNat)
            case atStart =>
              obtain ⟨g, hg⟩ := Int.eq_ofNat_of_zero_le W0.out.g0.1
              exact ⟨1, g, rfl, by rw [hg], by rw [← hg]; exact W0.out, S6.out⟩
            case round =>
              obtain ⟨m, g, rfl, rfl, hw, st⟩ := hrel
              have WY := Lib.hid hw
              have hgn : g < n := by have := hw.g0; omega
              have hmn := way_le hw
              have hbc := (st.blk (i := 0) rfl).cell (i := 0) rfl
              have S7 := Lib.hid st
              clear st hw
              by_cases hgf : g = f
              · have hw2 := WY.out
                rw [hgf] at hw2
                have hend := way_end hw2
                have HSU := Lib.hid (show (perL p).take (f + 1) = (perL p).take f ++ [(m : Int)] by rw [perL_succ HPL.out hfn, ← hend])
                have hlo := S7.out.lo
                have gI : ((g : Int) != (f : Int)) = false := by simp [hgf]
                clear hw2 hend WY
                go_wp2_with (at_builtin; refine wpList_push_at _ rfl _ _ 33 2 rfl Try.underlying33 (.int .i64 0) 8 Try.info2 rfl w.heap.size _ _ _ rfl (S7.out.own (i := 2) rfl) _ rfl rfl (by omega) (by omega) hlo ?_)
                intro A7 c7 w7 own7 gr7 hat7
                have own8 : w7.ownsRow w.heap.size 2 1 (.slice A7 (f + 1) c7) (f + 1) (ints ((perL p).take (f + 1))) := by
                  rw [HSU.out]
                  simpa [ints] using own7
                have S8 := Lib.hid (S7.out.push (i := 2) rfl own8 gr7 hat7)
                clear own7 own8 gr7 hat7 hbc
                go_wp2
                go_roundw
                case rel => exact ⟨f + 1, _, _, by omega, rfl, by go_num, S8.out⟩
                case measure => simp [intOf]; omega
              · have gI : ((g : Int) != (f : Int)) = true := by simpa using fun h : (g : Int) = f => hgf (by omega)
                have hne : (g : Int) ≠ (f : Int) := by omega
                have hmlt := way_lt HPL.out HPO.out WY.out hne
                have W2 := Lib.hid (way_step HPL.out HPO.out WY.out hne)
                go_wp2_with fail
                refine (sRunL_bel g _ HX.out (HA.out.keep S7.out.below) HS.out (nums_len k) (own_rd (S7.out.own (i := 1) rfl)) hN hgn HWO.out).mono ?_
                rintro e wb2 ⟨rfl, bel⟩
                rw [HRUN.out g hgn]
                have S8 := Lib.hid (S7.out.go bel)
                obtain ⟨g', hg'⟩ := Int.eq_ofNat_of_zero_le W2.out.g0.1
                have W3 := Lib.hid (show Way p n (f : Int) (m + 1) (g' : Int) by rw [← hg']; exact W2.out)
                rw [hg']
                clear bel hbc S7 hg' W2 hne
                go_wp2
                go_roundw
                case rel => exact ⟨m + 1, g', by go_num, rfl, W3.out, S8.out⟩
                case measure => simp [intOf]; omega
          · obtain rfl : f = n := by omega
            rw [List.take_of_length_le (l := perL p) (by rw [HLEN.out]; exact Nat.le_refl _)] at S5
            go_wp2
            go_ret2
            exact ⟨A6, c6, by rw [HLEN.out]; rfl, by rw [HLEN.out]; exact S5.out.own (i := 2) rfl, S5.out.below⟩
end Go.Proofs.Ytpmmpnhdimgkhaa
