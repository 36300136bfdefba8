import Derived.Test.YtbjfeogkdfmjpaaSSc
import Derived.Test.YtbjfeogkdfmjpaaWkH
namespace Go.Proofs.Ytbjfeogkdfmjpaa
open Go.RowKit

/-- A system on n points. -/
def okSys (n : Int) (xss : List (List Int)) : Bool := decide (0 ≤ n ∧ n ≤ 400 ∧ xss.length ≤ 16 ∧ ∀ xs ∈ xss, (xs.length : Int) = n ∧ okP xs = true)
def sysC (n : Int) (xss : List (List Int)) : Int := if okSys n xss then 0 else 1
def sysTo (n : Int) (xss : List (List Int)) (k : Nat) : Prop := ∀ xs ∈ xss.take k, (xs.length : Int) = n ∧ okP xs = true
theorem sysTo_zero (n : Int) (xss : List (List Int)) : sysTo n xss 0 := by simp [sysTo]
theorem sysTo_succ {n : Int} {xss : List (List Int)} {k : Nat} {xs : List Int} (h : sysTo n xss k) (hx : xss[k]? = some xs) (h1 : (xs.length : Int) = n) (h2 : okP xs = true) : sysTo n xss (k + 1) := by
  intro ys hy
  rw [List.take_add_one, hx] at hy
  rcases List.mem_append.1 hy with h3 | h3
  · exact h ys h3
  · simp at h3
    subst h3
    exact ⟨h1, h2⟩
theorem sysTo_all {n : Int} {xss : List (List Int)} {k : Nat} (h : sysTo n xss k) (hk : xss.length ≤ k) (h0 : 0 ≤ n) (h1 : n ≤ 400) (h2 : xss.length ≤ 16) : okSys n xss = true := by
  unfold sysTo at h
  rw [List.take_of_length_le hk] at h
  exact decide_eq_true ⟨h0, h1, h2, h⟩
theorem sys_bad_n {n : Int} {xss : List (List Int)} (h : n < 0 ∨ 400 < n) : okSys n xss = false := decide_eq_false (by rintro ⟨h0, h1, _⟩; omega)
theorem sys_bad_len {n : Int} {xss : List (List Int)} (h : 16 < xss.length) : okSys n xss = false := decide_eq_false (by rintro ⟨_, _, h1, _⟩; omega)
theorem sys_bad_row {n : Int} {xss : List (List Int)} {k : Nat} {xs : List Int} (hx : xss[k]? = some xs) (h : (xs.length : Int) ≠ n ∨ okP xs = false) : okSys n xss = false :=
  decide_eq_false (by
    rintro ⟨_, _, _, hall⟩
    have h1 := hall xs (List.mem_of_getElem? hx)
    rcases h with h | h
    · exact h h1.1
    · rw [h] at h1; exact absurd h1.2 (by simp))
theorem sys_parts {n : Int} {xss : List (List Int)} (h : okSys n xss = true) : 0 ≤ n ∧ n ≤ 400 ∧ xss.length ≤ 16 ∧ ∀ xs ∈ xss, (xs.length : Int) = n ∧ okP xs = true := of_decide_eq_true h

set_option maxHeartbeats 1600000 in
theorem ssys_any {A : Option Addr} {c N : Nat} {xss : List (List Int)} (n : Int) (w : World) (hx : xss.length = N) (ha : RdSS w A xss) (hN : N ≤ 1048576) (hr : ∀ xs ∈ xss, (xs.length : Int) ≤ 1048576) :
    Calls Try.prog 86 #[.int .i64 n, .slice A N c] w fun e w' => e = .returned (.int .i64 (sysC n xss)) ∧ Below w.heap.size w w' := by
  have HX := Lib.hid hx
  have HA := Lib.hid ha
  have HR := Lib.hid hr
  by_cases hb : n < 0 ∨ 400 < n
  · have hc := Lib.hid (show sysC n xss = 1 by simp [sysC, sys_bad_n hb])
    clear hx ha hr
    go_enter Try.func86, Try.ntmps86
    go_wp2_with fail
    refine (in_no n 0 400 w hb).mono ?_
    rintro e w1 ⟨rfl, rfl⟩
    go_wp2
    go_ret
    exact ⟨ret_i64 hc.out.symm, Below.refl _ _⟩
  have hn0 : 0 ≤ n := by omega
  have hn1 : n ≤ 400 := by omega
  clear hb
  by_cases hl : 16 < N
  · have hc := Lib.hid (show sysC n xss = 1 by simp [sysC, sys_bad_len (n := n) (xss := xss) (by omega)])
    clear hx ha hr
    go_enter Try.func86, Try.ntmps86
    go_wp2_with fail
    refine (in_yes n 0 400 w hn0 hn1).mono ?_
    rintro e w1 ⟨rfl, rfl⟩
    go_wp2
    go_ret
    exact ⟨ret_i64 hc.out.symm, Below.refl _ _⟩
  clear hx ha hr
  go_enter Try.func86, Try.ntmps86
  go_wp2_with fail
  refine (in_yes n 0 400 w hn0 hn1).mono ?_
  rintro e w1 ⟨rfl, rfl⟩
  go_wp2
  go_loopw [5] (fun i wr => ∃ k : Nat, k ≤ N ∧ i = .int .i64 k ∧ sysTo n xss k ∧ Below w.heap.size w wr) (fun i _ => N - (intOf i).toNat)
  case atStart => exact ⟨0, Nat.zero_le _, rfl, sysTo_zero _ _, Below.refl _ _⟩
  case round =>
    obtain ⟨k, hk, rfl, st, bel⟩ := hrel
    have ST := Lib.hid st
    have BEL := Lib.hid bel
    clear st bel
    by_cases hlt : k < N
    · obtain ⟨b, o, A', c', xs, rfl, hg, hc, hrd, hm⟩ := (HA.out.keep BEL.out).row (k := k) (by rw [HX.out]; exact hlt)
      have HG := Lib.hid hg
      have HRD := Lib.hid hrd
      have hlen := HR.out xs (List.mem_of_getElem? hg)
      clear hg hrd
      by_cases h1 : (xs.length : Int) = n
      · have hne : ((xs.length : Int) != n) = false := by rw [bne_eq_false_iff_eq]; exact h1
        have H1 := Lib.hid h1
        clear h1
        cases hp : okP xs
        · have hbad := Lib.hid (show sysC n xss = 1 by simp [sysC, sys_bad_row HG.out (n := n) (.inr hp)])
          have HP := Lib.hid hp
          clear hp
          go_wp2_with fail
          refine (perm_any wr rfl HRD.out (by omega)).mono ?_
          rintro e w2 ⟨rfl, bel2⟩
          rw [HP.out]
          have BEL2 := Lib.hid bel2
          clear bel2
          go_wp2
          go_ret
          exact ⟨ret_i64 hbad.out.symm, BEL.out.trans (BEL2.out.mono BEL.out.size)⟩
        · have hst := Lib.hid (sysTo_succ ST.out HG.out H1.out hp)
          have HP := Lib.hid hp
          clear hp
          go_wp2_with fail
          refine (perm_any wr rfl HRD.out (by omega)).mono ?_
          rintro e w2 ⟨rfl, bel2⟩
          rw [HP.out]
          have BEL2 := Lib.hid bel2
          clear bel2
          go_wp2
          go_roundw
          case rel => exact ⟨k + 1, by omega, by go_num, hst.out, BEL.out.trans (BEL2.out.mono BEL.out.size)⟩
          case measure => simp [intOf]; omega
      · have hne : ((xs.length : Int) != n) = true := by rw [bne_iff_ne]; exact h1
        have hbad := Lib.hid (show sysC n xss = 1 by simp [sysC, sys_bad_row HG.out (n := n) (.inl h1)])
        clear h1
        go_wp2
        go_ret
        exact ⟨ret_i64 hbad.out.symm, BEL.out⟩
    · have hok := Lib.hid (show sysC n xss = 0 by simp [sysC, sysTo_all ST.out (by rw [HX.out]; omega) hn0 hn1 (by rw [HX.out]; omega)])
      go_wp2
      go_ret
      exact ⟨ret_i64 hok.out.symm, BEL.out⟩

set_option maxHeartbeats 1600000 in
theorem isys_any {A : Option Addr} {c N : Nat} {xss : List (List Int)} (n : Int) (w : World) (hx : xss.length = N) (ha : RdSS w A xss) (hN : N ≤ 1048576) (hr : ∀ xs ∈ xss, (xs.length : Int) ≤ 1048576) :
    Calls Try.prog 84 #[.int .i64 n, .slice A N c] w fun e w' => e = .returned (.bool (okSys n xss)) ∧ Below w.heap.size w w' := by
  have HX := Lib.hid hx
  have HA := Lib.hid ha
  have HR := Lib.hid hr
  by_cases hb : n < 0
  · have hc := Lib.hid (sys_bad_n (xss := xss) (.inl hb))
    clear hx ha hr
    go_enter Try.func84, Try.ntmps84
    go_wp2
    go_ret
    exact ⟨ret_bool hc.out.symm, Below.refl _ _⟩
  by_cases hb2 : 400 < n
  · have hc := Lib.hid (sys_bad_n (xss := xss) (.inr hb2))
    clear hx ha hr
    go_enter Try.func84, Try.ntmps84
    go_wp2
    go_ret
    exact ⟨ret_bool hc.out.symm, Below.refl _ _⟩
  have hn0 : 0 ≤ n := by omega
  have hn1 : n ≤ 400 := by omega
  clear hb hb2
  by_cases hl : 16 < N
  · have hc := Lib.hid (sys_bad_len (n := n) (xss := xss) (by omega))
    clear hx ha hr
    go_enter Try.func84, Try.ntmps84
    go_wp2
    go_ret
    exact ⟨ret_bool hc.out.symm, Below.refl _ _⟩
  clear hx ha hr
  go_enter Try.func84, Try.ntmps84
  go_wp2
  go_loopw [20] (fun i wr => ∃ k : Nat, k ≤ N ∧ i = .int .i64 k ∧ sysTo n xss k ∧ Below w.heap.size w wr) (fun i _ => N - (intOf i).toNat)
  case atStart => exact ⟨0, Nat.zero_le _, rfl, sysTo_zero _ _, Below.refl _ _⟩
  case round =>
    obtain ⟨k, hk, rfl, st, bel⟩ := hrel
    have ST := Lib.hid st
    have BEL := Lib.hid bel
    clear st bel
    by_cases hlt : k < N
    · obtain ⟨b, o, A', c', xs, rfl, hg, hc, hrd, hm⟩ := (HA.out.keep BEL.out).row (k := k) (by rw [HX.out]; exact hlt)
      have HG := Lib.hid hg
      have HRD := Lib.hid hrd
      have hlen := HR.out xs (List.mem_of_getElem? hg)
      clear hg hrd
      by_cases h1 : (xs.length : Int) = n
      · have hne : ((xs.length : Int) != n) = false := by rw [bne_eq_false_iff_eq]; exact h1
        have H1 := Lib.hid h1
        clear h1
        cases hp : okP xs
        · have hbad := Lib.hid (sys_bad_row HG.out (n := n) (.inr hp))
          have HP := Lib.hid hp
          clear hp
          go_wp2_with fail
          refine (iperm_any wr rfl HRD.out (by omega)).mono ?_
          rintro e w2 ⟨rfl, bel2⟩
          rw [HP.out]
          have BEL2 := Lib.hid bel2
          clear bel2
          go_wp2
          go_ret
          exact ⟨ret_bool hbad.out.symm, BEL.out.trans (BEL2.out.mono BEL.out.size)⟩
        · have hst := Lib.hid (sysTo_succ ST.out HG.out H1.out hp)
          have HP := Lib.hid hp
          clear hp
          go_wp2_with fail
          refine (iperm_any wr rfl HRD.out (by omega)).mono ?_
          rintro e w2 ⟨rfl, bel2⟩
          rw [HP.out]
          have BEL2 := Lib.hid bel2
          clear bel2
          go_wp2
          go_roundw
          case rel => exact ⟨k + 1, by omega, by go_num, hst.out, BEL.out.trans (BEL2.out.mono BEL.out.size)⟩
          case measure => simp [intOf]; omega
      · have hne : ((xs.length : Int) != n) = true := by rw [bne_iff_ne]; exact h1
        have hbad := Lib.hid (sys_bad_row HG.out (n := n) (.inl h1))
        clear h1
        go_wp2
        go_ret
        exact ⟨ret_bool hbad.out.symm, BEL.out⟩
    · have hok := Lib.hid (sysTo_all ST.out (by rw [HX.out]; omega) hn0 hn1 (by rw [HX.out]; omega))
      go_wp2
      go_ret
      exact ⟨ret_bool hok.out.symm, BEL.out⟩
end Go.Proofs.Ytbjfeogkdfmjpaa
