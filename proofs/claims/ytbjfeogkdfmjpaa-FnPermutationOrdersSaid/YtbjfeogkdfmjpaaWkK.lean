import Derived.Test.YtbjfeogkdfmjpaaWkJ
namespace Go.Proofs.Ytbjfeogkdfmjpaa
open Go.RowKit

theorem ret2_i64 {a b a' b' : Int} (h : a = a') (h' : b = b') : Ending.returned (.tuple #[.int .i64 a, .int .i64 b]) = .returned (.tuple #[.int .i64 a', .int .i64 b']) := by rw [h, h']
def stepW (xss : List (List Int)) (p g : Int) : Int := (xss.getD g.toNat []).getD p.toNat 0
def runW (xss : List (List Int)) (p : Int) (word : List Int) : Int := word.foldl (stepW xss) p
def wordOk (xss : List (List Int)) (word : List Int) : Bool := decide (∀ x ∈ word, 0 ≤ x ∧ x < (xss.length : Int))
def wordIn (n : Int) (word : List Int) (pt : Int) : Bool := decide (word.length ≤ 64 ∧ 0 ≤ pt ∧ pt < n)
def appC (n : Int) (xss : List (List Int)) (word : List Int) (pt : Int) : Int := if okSys n xss then (if wordIn n word pt && wordOk xss word then 0 else 2) else 1
def appR (n : Int) (xss : List (List Int)) (word : List Int) (pt : Int) : Int := if okSys n xss && (wordIn n word pt && wordOk xss word) then runW xss pt word else 0
theorem runW_succ {xss : List (List Int)} {word : List Int} {k : Nat} {g p : Int} (h : word[k]? = some g) : runW xss p (word.take (k + 1)) = stepW xss (runW xss p (word.take k)) g := by
  rw [take_succ_of h]
  simp [runW]
theorem stepW_of {xss : List (List Int)} {xs : List Int} {g p : Nat} {y : Int} (h : xss[g]? = some xs) (hy : xs[p]? = some y) : stepW xss (p : Int) (g : Int) = y := by
  simp [stepW, h, hy]
theorem word_bad {xss : List (List Int)} {word : List Int} {k : Nat} {x : Int} (h : word[k]? = some x) (hx : x < 0 ∨ (xss.length : Int) ≤ x) : wordOk xss word = false :=
  decide_eq_false fun hall => by have := hall x (mem_of_get h); omega
def wordTo (xss : List (List Int)) (word : List Int) (k : Nat) : Prop := ∀ x ∈ word.take k, 0 ≤ x ∧ x < (xss.length : Int)
theorem wordTo_succ {xss : List (List Int)} {word : List Int} {k : Nat} {x : Int} (h : wordTo xss word k) (hx : word[k]? = some x) (h0 : 0 ≤ x) (h1 : x < (xss.length : Int)) : wordTo xss word (k + 1) := by
  intro y hy
  rw [take_succ_of hx] at hy
  rcases List.mem_append.1 hy with h2 | h2
  · exact h y h2
  · simp at h2; omega
theorem wordTo_all {xss : List (List Int)} {word : List Int} {k : Nat} (h : wordTo xss word k) (hk : word.length ≤ k) : wordOk xss word = true := by
  unfold wordTo at h
  rw [List.take_of_length_le hk] at h
  exact decide_eq_true h
theorem wordOk_at {xss : List (List Int)} {word : List Int} {k : Nat} {x : Int} (h : wordOk xss word = true) (hx : word[k]? = some x) : ∃ g : Nat, x = (g : Int) ∧ g < xss.length := by
  have := (of_decide_eq_true h) x (mem_of_get hx)
  exact ⟨x.toNat, by omega, by omega⟩
theorem sys_at {n : Int} {xss : List (List Int)} {g p : Nat} {xs : List Int} {y : Int} (h : okSys n xss = true) (hx : xss[g]? = some xs) (hy : xs[p]? = some y) : ∃ q : Nat, y = (q : Int) ∧ (q : Int) < n := by
  have h1 := (sys_parts h).2.2.2 xs (List.mem_of_getElem? hx)
  obtain ⟨q, hq, hlt⟩ := okP_at h1.2 rfl hy
  exact ⟨q, hq, by omega⟩
theorem sys_len {n : Int} {xss : List (List Int)} {g : Nat} {xs : List Int} (h : okSys n xss = true) (hx : xss[g]? = some xs) : (xs.length : Int) = n := ((sys_parts h).2.2.2 xs (List.mem_of_getElem? hx)).1

set_option maxHeartbeats 1600000 in
theorem sapp_any {A A2 : Option Addr} {c c2 N m : Nat} {xss : List (List Int)} {word : List Int} (n pt : Int) (w : World) (hx : xss.length = N) (ha : RdSS w A xss) (hN : N ≤ 1048576) (hr : ∀ xs ∈ xss, (xs.length : Int) ≤ 1048576)
    (hy : word.length = m) (ha2 : Rd w A2 (ints word)) (hm : m ≤ 1048576) :
    Calls Try.prog 60 #[.int .i64 n, .slice A N c, .slice A2 m c2, .int .i64 pt] w fun e w' => e = .returned (.tuple #[.int .i64 (appR n xss word pt), .int .i64 (appC n xss word pt)]) ∧ Below w.heap.size w w' := by
  have HX := Lib.hid hx
  have HA := Lib.hid ha
  have HR := Lib.hid hr
  have HY := Lib.hid hy
  have HA2 := Lib.hid ha2
  clear hx ha hr hy ha2
  cases hs : okSys n xss
  · have h1 : appR n xss word pt = 0 := by simp [appR, hs]
    have h2 : appC n xss word pt = 1 := by simp [appC, hs]
    have h3 := Lib.hid (show sysC n xss = 1 by simp [sysC, hs])
    rw [h1, h2]
    clear h1 h2 hs
    go_enter Try.func60, Try.ntmps60
    go_wp2_with fail
    refine (ssys_any n w HX.out HA.out hN HR.out).mono ?_
    rintro e w1 ⟨rfl, bel⟩
    rw [h3.out]
    have BEL := Lib.hid bel
    clear bel
    go_wp2
    go_ret2
    exact ⟨rfl, BEL.out⟩
  have hp := sys_parts hs
  have hn0 := hp.1
  have hn1 := hp.2.1
  have HS := Lib.hid hs
  have h3 := Lib.hid (show sysC n xss = 0 by simp [sysC, hs])
  clear hp
  by_cases hlong : 64 < m
  · have hb : wordIn n word pt = false := decide_eq_false (by rw [HY.out]; omega)
    have h1 : appR n xss word pt = 0 := by simp [appR, hb]
    have h2 : appC n xss word pt = 2 := by simp [appC, hs, hb]
    rw [h1, h2]
    clear h1 h2 hs hb
    go_enter Try.func60, Try.ntmps60
    go_wp2_with fail
    refine (ssys_any n w HX.out HA.out hN HR.out).mono ?_
    rintro e w1 ⟨rfl, bel⟩
    rw [h3.out]
    have BEL := Lib.hid bel
    clear bel
    go_wp2
    go_ret2
    exact ⟨rfl, BEL.out⟩
  by_cases hpt : pt < 0 ∨ n - 1 < pt
  · have hb : wordIn n word pt = false := decide_eq_false (by omega)
    have h1 : appR n xss word pt = 0 := by simp [appR, hb]
    have h2 : appC n xss word pt = 2 := by simp [appC, hs, hb]
    rw [h1, h2]
    clear h1 h2 hs hb
    go_enter Try.func60, Try.ntmps60
    go_wp2_with fail
    refine (ssys_any n w HX.out HA.out hN HR.out).mono ?_
    rintro e w1 ⟨rfl, bel⟩
    rw [h3.out]
    have BEL := Lib.hid bel
    clear bel
    go_wp2_with fail
    refine (in_no pt 0 (n - 1) w1 hpt).mono ?_
    rintro e w2 ⟨rfl, rfl⟩
    go_wp2
    go_ret2
    exact ⟨rfl, BEL.out⟩
  have hb : wordIn n word pt = true := decide_eq_true ⟨by rw [HY.out]; omega, by omega, by omega⟩
  have hp0 : 0 ≤ pt := by omega
  have hp1 : pt ≤ n - 1 := by omega
  clear hpt
  cases hw : wordOk xss word
  · have h1 : appR n xss word pt = 0 := by simp [appR, hw]
    have h2 : appC n xss word pt = 2 := by simp [appC, hs, hw]
    rw [h1, h2]
    have HW := Lib.hid hw
    clear h1 h2 hs hb hw
    go_enter Try.func60, Try.ntmps60
    go_wp2_with fail
    refine (ssys_any n w HX.out HA.out hN HR.out).mono ?_
    rintro e w1 ⟨rfl, bel⟩
    rw [h3.out]
    have BEL := Lib.hid bel
    clear bel
    go_wp2_with fail
    refine (in_yes pt 0 (n - 1) w1 hp0 hp1).mono ?_
    rintro e w2 ⟨rfl, rfl⟩
    go_wp2
    go_loop [11] (fun i => ∃ k : Nat, k ≤ m ∧ i = .int .i64 k ∧ wordTo xss word k) (fun i => m - (intOf i).toNat)
    case atStart => exact ⟨0, Nat.zero_le _, rfl, by simp [wordTo]⟩
    case round =>
      obtain ⟨k, hk, rfl, wt⟩ := hrel
      have WT := Lib.hid wt
      clear wt
      by_cases hlt : k < m
      · obtain ⟨b, o, x, rfl, hgx, hcx⟩ := (HA2.out.keep BEL.out).int (k := k) (by rw [HY.out]; exact hlt)
        have HG := Lib.hid hgx
        clear hgx
        by_cases hr : x < 0 ∨ (N : Int) - 1 < x
        · go_wp2_with fail
          refine (in_no x 0 ((N : Int) - 1) w1 hr).mono ?_
          rintro e w2 ⟨rfl, rfl⟩
          go_wp2
          go_ret2
          exact ⟨rfl, BEL.out⟩
        · go_wp2_with fail
          refine (in_yes x 0 ((N : Int) - 1) w1 (by omega) (by omega)).mono ?_
          rintro e w2 ⟨rfl, rfl⟩
          have hx0 : 0 ≤ x := by omega
          have hx1 : x ≤ (N : Int) - 1 := by omega
          clear hr
          go_wp2
          go_round
          case rel => exact ⟨k + 1, by omega, by go_num, wordTo_succ WT.out HG.out (by omega) (by rw [HX.out]; omega)⟩
          case measure => simp [intOf]; omega
      · exfalso
        have h4 := wordTo_all WT.out (by rw [HY.out]; omega)
        rw [HW.out] at h4
        cases h4
  have h1 : appR n xss word pt = runW xss pt word := by simp [appR, hs, hb, hw]
  have h2 : appC n xss word pt = 0 := by simp [appC, hs, hb, hw]
  rw [h1, h2]
  have HW := Lib.hid hw
  clear h1 h2 hs hb hw
  go_enter Try.func60, Try.ntmps60
  go_wp2_with fail
  refine (ssys_any n w HX.out HA.out hN HR.out).mono ?_
  rintro e w1 ⟨rfl, bel⟩
  rw [h3.out]
  have BEL := Lib.hid bel
  clear bel
  go_wp2_with fail
  refine (in_yes pt 0 (n - 1) w1 hp0 hp1).mono ?_
  rintro e w2 ⟨rfl, rfl⟩
  go_wp2
  go_loop [11] (fun i => ∃ k : Nat, k ≤ m ∧ i = .int .i64 k) (fun i => m - (intOf i).toNat)
  case atStart => exact ⟨0, Nat.zero_le _, rfl⟩
  case round =>
    obtain ⟨k, hk, rfl⟩ := hrel
    by_cases hlt : k < m
    · obtain ⟨b, o, x, rfl, hgx, hcx⟩ := (HA2.out.keep BEL.out).int (k := k) (by rw [HY.out]; exact hlt)
      obtain ⟨g, rfl, hg⟩ := wordOk_at HW.out hgx
      rw [HX.out] at hg
      clear hgx
      go_wp2_with fail
      refine (in_yes g 0 ((N : Int) - 1) w1 (by omega) (by omega)).mono ?_
      rintro e w2 ⟨rfl, rfl⟩
      go_wp2
      go_round
      case rel => exact ⟨k + 1, by omega, by go_num⟩
      case measure => simp [intOf]; omega
    · go_wp2
      go_loop [3, 12] (fun q i => ∃ k p : Nat, k ≤ m ∧ i = .int .i64 k ∧ q = .int .i64 p ∧ (p : Int) = runW xss pt (word.take k) ∧ (p : Int) < n) (fun _ i => m - (intOf i).toNat)
      case atStart => exact ⟨0, pt.toNat, Nat.zero_le _, rfl, by rw [show ((pt.toNat : Nat) : Int) = pt by omega], by simp [runW]; omega, by omega⟩
      case round =>
        obtain ⟨k, p, hk, rfl, rfl, hrun, hpn⟩ := hrel
        have HRUN := Lib.hid hrun
        clear hrun
        by_cases hlt2 : k < m
        · obtain ⟨b, o, x, rfl, hgx, hcx⟩ := (HA2.out.keep BEL.out).int (k := k) (by rw [HY.out]; exact hlt2)
          obtain ⟨g, rfl, hg⟩ := wordOk_at HW.out hgx
          obtain ⟨b2, o2, A3, c3, xs, rfl, hgs, hcs, hrd, hms⟩ := (HA.out.keep BEL.out).row (k := g) hg
          have hxl := sys_len HS.out hgs
          obtain ⟨b3, o3, y, rfl, hgy, hcy⟩ := hrd.int (k := p) (by omega)
          obtain ⟨q, rfl, hq⟩ := sys_at HS.out hgs hgy
          rw [HX.out] at hg
          have HG := Lib.hid hgx
          have HGS := Lib.hid hgs
          have HGY := Lib.hid hgy
          have hpl : p < xs.length := by omega
          clear hgx hgs hgy hrd hxl
          go_wp2
          go_round
          case rel => exact ⟨k + 1, q, by omega, by go_num, rfl, by rw [runW_succ HG.out, ← HRUN.out, stepW_of HGS.out HGY.out], hq⟩
          case measure => simp [intOf]; omega
        · go_wp2
          go_ret2
          have h5 := HRUN.out
          rw [List.take_of_length_le (by rw [HY.out]; omega)] at h5
          exact ⟨ret2_i64 h5 rfl, BEL.out⟩

set_option maxHeartbeats 1600000 in
theorem iapp_any {A A2 : Option Addr} {c c2 N m : Nat} {xss : List (List Int)} {word : List Int} (n pt : Int) (w : World) (hx : xss.length = N) (ha : RdSS w A xss) (hN : N ≤ 1048576) (hr : ∀ xs ∈ xss, (xs.length : Int) ≤ 1048576)
    (hy : word.length = m) (ha2 : Rd w A2 (ints word)) (hm : m ≤ 1048576) :
    Calls Try.prog 41 #[.int .i64 n, .slice A N c, .slice A2 m c2, .int .i64 pt] w fun e w' => e = .returned (.tuple #[.int .i64 (appR n xss word pt), .int .i64 (appC n xss word pt)]) ∧ Below w.heap.size w w' := by
  have HX := Lib.hid hx
  have HA := Lib.hid ha
  have HR := Lib.hid hr
  have HY := Lib.hid hy
  have HA2 := Lib.hid ha2
  clear hx ha hr hy ha2
  cases hs : okSys n xss
  · have h1 : appR n xss word pt = 0 := by simp [appR, hs]
    have h2 : appC n xss word pt = 1 := by simp [appC, hs]
    rw [h1, h2]
    have HS := Lib.hid hs
    clear h1 h2 hs
    go_enter Try.func41, Try.ntmps41
    go_wp2_with fail
    refine (isys_any n w HX.out HA.out hN HR.out).mono ?_
    rintro e w1 ⟨rfl, bel⟩
    rw [HS.out]
    have BEL := Lib.hid bel
    clear bel
    go_wp2
    go_ret2
    exact ⟨rfl, BEL.out⟩
  have hp := sys_parts hs
  have hn0 := hp.1
  have hn1 := hp.2.1
  have HS := Lib.hid hs
  clear hp
  by_cases hpt : pt < 0
  · have hb : wordIn n word pt = false := decide_eq_false (by omega)
    have h1 : appR n xss word pt = 0 := by simp [appR, hb]
    have h2 : appC n xss word pt = 2 := by simp [appC, hs, hb]
    rw [h1, h2]
    clear h1 h2 hs hb
    go_enter Try.func41, Try.ntmps41
    go_wp2_with fail
    refine (isys_any n w HX.out HA.out hN HR.out).mono ?_
    rintro e w1 ⟨rfl, bel⟩
    rw [HS.out]
    have BEL := Lib.hid bel
    clear bel
    go_wp2
    go_ret2
    exact ⟨rfl, BEL.out⟩
  by_cases hpt2 : n ≤ pt
  · have hb : wordIn n word pt = false := decide_eq_false (by omega)
    have h1 : appR n xss word pt = 0 := by simp [appR, hb]
    have h2 : appC n xss word pt = 2 := by simp [appC, hs, hb]
    rw [h1, h2]
    clear h1 h2 hs hb
    go_enter Try.func41, Try.ntmps41
    go_wp2_with fail
    refine (isys_any n w HX.out HA.out hN HR.out).mono ?_
    rintro e w1 ⟨rfl, bel⟩
    rw [HS.out]
    have BEL := Lib.hid bel
    clear bel
    go_wp2
    go_ret2
    exact ⟨rfl, BEL.out⟩
  by_cases hlong : 64 < m
  · have hb : wordIn n word pt = false := decide_eq_false (by rw [HY.out]; omega)
    have h1 : appR n xss word pt = 0 := by simp [appR, hb]
    have h2 : appC n xss word pt = 2 := by simp [appC, hs, hb]
    rw [h1, h2]
    clear h1 h2 hs hb
    go_enter Try.func41, Try.ntmps41
    go_wp2_with fail
    refine (isys_any n w HX.out HA.out hN HR.out).mono ?_
    rintro e w1 ⟨rfl, bel⟩
    rw [HS.out]
    have BEL := Lib.hid bel
    clear bel
    go_wp2
    go_ret2
    exact ⟨rfl, BEL.out⟩
  have hb : wordIn n word pt = true := decide_eq_true ⟨by rw [HY.out]; omega, by omega, by omega⟩
  have hp0 : 0 ≤ pt := by omega
  have hp1 : pt < n := by omega
  clear hpt hpt2
  have HB := Lib.hid hb
  have HS2 := Lib.hid hs
  clear hb hs
  go_enter Try.func41, Try.ntmps41
  go_wp2_with fail
  refine (isys_any n w HX.out HA.out hN HR.out).mono ?_
  rintro e w1 ⟨rfl, bel⟩
  rw [HS.out]
  have BEL := Lib.hid bel
  clear bel
  go_wp2
  go_loop [3, 30] (fun q i => ∃ k p : Nat, k ≤ m ∧ i = .int .i64 k ∧ q = .int .i64 p ∧ (p : Int) = runW xss pt (word.take k) ∧ (p : Int) < n ∧ wordTo xss word k) (fun _ i => m - (intOf i).toNat)
  case atStart => exact ⟨0, pt.toNat, Nat.zero_le _, rfl, by rw [show ((pt.toNat : Nat) : Int) = pt by omega], by simp [runW]; omega, by omega, by simp [wordTo]⟩
  case round =>
    obtain ⟨k, p, hk, rfl, rfl, hrun, hpn, hwt⟩ := hrel
    have HRUN := Lib.hid hrun
    have WT := Lib.hid hwt
    clear hrun hwt
    by_cases hlt2 : k < m
    · obtain ⟨b, o, x, rfl, hgx, hcx⟩ := (HA2.out.keep BEL.out).int (k := k) (by rw [HY.out]; exact hlt2)
      by_cases hx0 : x < 0
      · have hw := word_bad (xss := xss) hgx (.inl hx0)
        have h1 := Lib.hid (show appR n xss word pt = 0 by simp [appR, hw])
        have h2 := Lib.hid (show appC n xss word pt = 2 by simp [appC, HS.out, hw])
        clear hw hgx
        go_wp2
        go_ret2
        exact ⟨ret2_i64 h1.out.symm h2.out.symm, BEL.out⟩
      by_cases hx1 : (N : Int) ≤ x
      · have hw := word_bad (xss := xss) hgx (.inr (by rw [HX.out]; exact hx1))
        have h1 := Lib.hid (show appR n xss word pt = 0 by simp [appR, hw])
        have h2 := Lib.hid (show appC n xss word pt = 2 by simp [appC, HS.out, hw])
        clear hw hgx
        go_wp2
        go_ret2
        exact ⟨ret2_i64 h1.out.symm h2.out.symm, BEL.out⟩
      obtain ⟨g, rfl⟩ := Int.eq_ofNat_of_zero_le (show 0 ≤ x by omega)
      have hg : g < N := by omega
      clear hx0 hx1
      obtain ⟨b2, o2, A3, c3, xs, rfl, hgs, hcs, hrd, hms⟩ := (HA.out.keep BEL.out).row (k := g) (by rw [HX.out]; exact hg)
      have hxl := sys_len HS.out hgs
      obtain ⟨b3, o3, y, rfl, hgy, hcy⟩ := hrd.int (k := p) (by omega)
      obtain ⟨q, rfl, hq⟩ := sys_at HS.out hgs hgy
      have HG := Lib.hid hgx
      have HGS := Lib.hid hgs
      have HGY := Lib.hid hgy
      have hpl : p < xs.length := by omega
      have WT2 := Lib.hid (wordTo_succ WT.out hgx (by omega) (by rw [HX.out]; omega))
      clear hgx hgs hgy hrd hxl
      go_wp2
      go_round
      case rel => exact ⟨k + 1, q, by omega, by go_num, rfl, by rw [runW_succ HG.out, ← HRUN.out, stepW_of HGS.out HGY.out], hq, WT2.out⟩
      case measure => simp [intOf]; omega
    · have hw := wordTo_all WT.out (by rw [HY.out]; omega)
      have h5 := HRUN.out
      rw [List.take_of_length_le (by rw [HY.out]; omega)] at h5
      have h1 := Lib.hid (show appR n xss word pt = (p : Int) by simp [appR, HS.out, HB.out, hw, h5])
      have h2 := Lib.hid (show appC n xss word pt = 0 by simp [appC, HS.out, HB.out, hw])
      clear hw h5
      go_wp2
      go_ret2
      exact ⟨ret2_i64 h1.out.symm h2.out.symm, BEL.out⟩
end Go.Proofs.Ytbjfeogkdfmjpaa
