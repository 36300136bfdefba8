import Derived.Test.YtjkddoiacifhpaaLwIsManiplex
import Derived.Test.YtjkddoiacifhpaaL2
namespace Go.Proofs.Ytjkddoiacifhpaa
open Go.RowKit

theorem man_row0 {w : World} {A : Option Addr} {xss : List (List Int)} (h : IsMan xss) (ha : RdSS w A xss) : ∃ (b o : Nat) (A0 : Option Addr) (c0 : Nat), A = some ⟨b, o, none⟩ ∧ w.cell? ⟨b, o, none⟩ = some (.slice A0 (flN xss) c0) := by
  obtain ⟨b, o, A0, c0, xs0, rfl, hg0, hc0, _, _⟩ := ha.row (k := 0) (by have := h.r1; omega)
  rw [← fl_of hg0, Nat.add_zero] at hc0
  exact ⟨b, o, A0, c0, rfl, hc0⟩
def flagB (n : Nat) (f : Int) : Bool := decide (0 ≤ f ∧ f < (n : Int))
theorem flagB_true {n : Nat} {f : Int} (h : flagB n f = true) : ∃ p : Nat, f = (p : Int) ∧ p < n := by
  have h1 := of_decide_eq_true h
  exact ⟨f.toNat, by omega, by omega⟩
theorem flagB_false {n : Nat} {f : Int} (h : flagB n f = false) : f < 0 ∨ (n : Int) ≤ f := by
  have h1 := of_decide_eq_false h
  omega
theorem in_val {x a b : Int} {r : Bool} (w : World) (h : decide (a ≤ x ∧ x ≤ b) = r) : Calls Try.prog 148 #[.int .i64 x, .int .i64 a, .int .i64 b] w fun e w' => e = .returned (.bool r) ∧ Below w.heap.size w w' := by
  by_cases h1 : a ≤ x ∧ x ≤ b
  · rw [decide_eq_true h1] at h
    subst h
    exact (in_yes x a b w h1.1 h1.2).mono fun _ _ ⟨he, hw⟩ => ⟨he, hw ▸ Below.refl _ _⟩
  · rw [decide_eq_false h1] at h
    subst h
    exact (in_no x a b w (by omega)).mono fun _ _ ⟨he, hw⟩ => ⟨he, hw ▸ Below.refl _ _⟩
theorem sFlags_bel {b o c N n c0 : Nat} {A0 : Option Addr} (w : World) (hN : 0 < N) (h0 : w.cell? ⟨b, o, none⟩ = some (.slice A0 n c0)) :
    Calls Try.prog 154 #[.agg #[.slice (some ⟨b, o, none⟩) N c]] w fun e w' => e = .returned (.int .i64 n) ∧ Below w.heap.size w w' := by
  have hlt := World.block_lt_of_cell? w _ h0
  go_enter Try.func154, Try.ntmps154
  go_wp2
  go_ret
  exact ⟨rfl, below1 _ _⟩
theorem sFlag_bel {b o c N n c0 : Nat} {A0 : Option Addr} {r : Bool} (f : Int) (w : World) (hN : 0 < N) (h0 : w.cell? ⟨b, o, none⟩ = some (.slice A0 n c0)) (hn : n ≤ 1048576) (hr : flagB n f = r) :
    Calls Try.prog 144 #[.agg #[.slice (some ⟨b, o, none⟩) N c], .int .i64 f] w fun e w' => e = .returned (.bool r) ∧ Below w.heap.size w w' := by
  have HC0 := Lib.hid (cell_al h0 (.cells #[.slice (some ⟨b, o, none⟩) N c] 51))
  have HR := Lib.hid (show decide ((0 : Int) ≤ f ∧ f ≤ (n : Int) - 1) = r from by rw [← hr]; unfold flagB; congr 1; simp only [eq_iff_iff]; omega)
  clear h0 hr
  go_enter Try.func144, Try.ntmps144
  go_wp2_with fail
  refine (sFlags_bel _ hN HC0.out).mono ?_
  rintro e w1 ⟨rfl, bel⟩
  go_wp2_with fail
  refine (in_val _ HR.out).mono ?_
  rintro e w2 ⟨rfl, bel2⟩
  go_wp2
  go_ret
  exact ⟨rfl, (below1 w _).trans ((bel.mono (by simp)).trans (bel2.mono (by have := bel.size; simp at this; omega)))⟩
def wordB (xss : List (List Int)) (word : List Int) : Bool := wordOk xss word && decide (word.length ≤ 64)
set_option maxHeartbeats 800000 in
theorem sWord_bel {A A2 : Option Addr} {c c2 N m : Nat} {xss : List (List Int)} {word : List Int} (w : World) (hx : xss.length = N) (hN : N ≤ 1048576) (hy : word.length = m) (ha2 : Rd w A2 (ints word)) (hm : m ≤ 1048576) :
    Calls Try.prog 152 #[.agg #[.slice A N c], .slice A2 m c2] w fun e w' => e = .returned (.bool (wordB xss word)) ∧ Below w.heap.size w w' := by
  have HX := Lib.hid hx
  have HY := Lib.hid hy
  have HA := Lib.hid ha2
  clear hx hy ha2
  go_enter Try.func152, Try.ntmps152
  go_wp2
  go_loopw [5] (fun i wr => ∃ k : Nat, k ≤ m ∧ i = .int .i64 k ∧ wordTo xss word k ∧ Bx w wr (.slice A N c) 51) (fun i _ => m - (intOf i).toNat)
  case atStart => exact ⟨0, Nat.zero_le _, rfl, by simp [wordTo], Bx.start _ _ _⟩
  case round =>
    obtain ⟨k, hk, rfl, wt, bx⟩ := hrel
    have WT := Lib.hid wt
    have BX := Lib.hid bx
    clear wt bx
    by_cases hlt : k < m
    · obtain ⟨b, o, x, rfl, hgx, hcx⟩ := (HA.out.keep BX.out.below).int (k := k) (by rw [HY.out]; exact hlt)
      have HG := Lib.hid hgx
      have hbc := BelowOf.cell BX.out.cell
      have hxc := BelowOf.cell hcx
      have hkI : (k : Int) < (m : Int) := by omega
      clear hgx hcx
      by_cases hin : 0 ≤ x ∧ x < (N : Int)
      · have HD := Lib.hid (show decide ((0 : Int) ≤ x ∧ x ≤ (N : Int) - 1) = true from decide_eq_true (by omega))
        have WT2 := Lib.hid (wordTo_succ WT.out HG.out hin.1 (by rw [HX.out]; exact hin.2))
        go_wp2_with fail
        refine wp_region_quiet_below (by kernel_rfl) (by kernel_rfl) ?_
        repeat (go_big_quiet_step ((go_at_call 148; exact Calls.below_of (in_val _ HD.out))))
        refine wpQuiet_nil ?_
        intro _ hw'
        obtain ⟨⟨wq, hbq⟩, hw''⟩ := hw'
        subst hw''
        have BX2 := Lib.hid (BX.out.go hbq)
        clear hbq
        go_wp2
        go_roundw
        case rel => exact ⟨k + 1, by omega, by go_num, WT2.out, BX2.out⟩
        case measure => simp [intOf]; omega
      · have HD := Lib.hid (show decide ((0 : Int) ≤ x ∧ x ≤ (N : Int) - 1) = false from decide_eq_false (by omega))
        have hs := Lib.hid (show wordB xss word = false from by unfold wordB; rw [word_bad HG.out (by rw [HX.out]; omega)]; rfl)
        clear hin
        go_wp2_with fail
        refine wp_region_quiet_below (by kernel_rfl) (by kernel_rfl) ?_
        repeat (go_big_quiet_step ((go_at_call 148; exact Calls.below_of (in_val _ HD.out))))
        refine wpQuiet_nil ?_
        intro _ hw'
        obtain ⟨⟨wq, hbq⟩, hw''⟩ := hw'
        subst hw''
        go_wp2
        go_ret
        exact ⟨ret_bool hs.out.symm, (BX.out.go hbq).below⟩
    · have hs := Lib.hid (show wordB xss word = decide ((m : Int) ≤ 64) from by unfold wordB; rw [wordTo_all WT.out (by rw [HY.out]; omega), HY.out, Bool.true_and]; congr 1; simp only [eq_iff_iff]; omega)
      go_wp2
      go_ret
      exact ⟨ret_bool hs.out.symm, BX.out.below⟩
set_option maxHeartbeats 800000 in
theorem sRunL_bel {A A2 : Option Addr} {c c2 N m n : Nat} {xss : List (List Int)} {word : List Int} (p : Nat) (w : World) (hx : xss.length = N) (ha : RdSS w A xss) (hsys : okSys n xss = true) (hy : word.length = m) (ha2 : Rd w A2 (ints word)) (hm : m ≤ 1048576) (hp : p < n) (hw : wordOk xss word = true) :
    Calls Try.prog 153 #[.agg #[.slice A N c], .int .i64 p, .slice A2 m c2] w fun e w' => e = .returned (.int .i64 (runW xss p word)) ∧ Below w.heap.size w w' := by
  have HX := Lib.hid hx
  have HA := Lib.hid ha
  have HS := Lib.hid hsys
  have HY := Lib.hid hy
  have HA2 := Lib.hid ha2
  have HW := Lib.hid hw
  have hn4 := (sys_parts hsys).2.1
  clear hx ha hy ha2 hsys hw
  go_enter Try.func153, Try.ntmps153
  go_wp2
  go_loopw [1, 7] (fun v i wr => ∃ k q : Nat, k ≤ m ∧ i = .int .i64 k ∧ v = .int .i64 q ∧ q < n ∧ (q : Int) = runW xss p (word.take k) ∧ Bx w wr (.slice A N c) 51) (fun _ i _ => m - (intOf i).toNat)
  case atStart => exact ⟨0, p, Nat.zero_le _, rfl, rfl, hp, by simp [runW], Bx.start _ _ _⟩
  case round =>
    obtain ⟨k, q, hk, rfl, rfl, hq, hrun, bx⟩ := hrel
    have HRUN := Lib.hid hrun
    have BX := Lib.hid bx
    clear hrun bx
    by_cases hlt : k < m
    · obtain ⟨b2, o2, x, rfl, hgx, hcx⟩ := (HA2.out.keep BX.out.below).int (k := k) (by rw [HY.out]; exact hlt)
      obtain ⟨g, rfl, hg⟩ := wordOk_at HW.out hgx
      obtain ⟨b, o, A1, c1, xs, rfl, hgr, hcr, hrd, _⟩ := (HA.out.keep BX.out.below).row (k := g) hg
      have hl := sys_len HS.out hgr
      have hl : xs.length = n := by omega
      rw [hl] at hcr
      obtain ⟨b3, o3, y, rfl, hgy, hcy⟩ := hrd.int (k := q) (by omega)
      obtain ⟨y, rfl, hy0⟩ := sys_at HS.out hgr hgy
      have HR2 := Lib.hid (show (y : Int) = runW xss p (word.take (k + 1)) from by rw [runW_succ hgx, ← HRUN.out, stepW_of hgr hgy])
      have hbc := BelowOf.cell BX.out.cell
      have hxc := BelowOf.cell hcx
      have hrc := BelowOf.cell hcr
      have hyc := BelowOf.cell hcy
      have hkI : (k : Int) < (m : Int) := by omega
      have hgI : (g : Int) < (N : Int) := by rw [HX.out] at hg; omega
      have hqI : (q : Int) < (n : Int) := by omega
      clear hgx hcx hgr hcr hrd hl hgy hcy hg
      go_wp2_with fail
      refine wp_region_quiet_below (by kernel_rfl) (by kernel_rfl) ?_
      repeat (go_big_quiet_step ((fail)))
      refine wpQuiet_nil ?_
      intro _ hw'
      obtain ⟨⟨wq, hbq⟩, hw''⟩ := hw'
      subst hw''
      have BX2 := Lib.hid (BX.out.go hbq)
      clear hbq
      go_wp2
      go_roundw
      case rel => exact ⟨k + 1, y, by omega, by go_num, rfl, by omega, HR2.out, BX2.out⟩
      case measure => simp [intOf]; omega
    · have hs := Lib.hid (show (q : Int) = runW xss p word from by rw [HRUN.out, List.take_of_length_le (by rw [HY.out]; omega)])
      go_wp2
      go_ret
      exact ⟨ret_i64 hs.out, BX.out.below⟩

noncomputable def runC (xss : List (List Int)) (f : Int) (word : List Int) : Int := if okMan xss then appC (flN xss) xss word f else 1
noncomputable def runR (xss : List (List Int)) (f : Int) (word : List Int) : Int := if okMan xss then appR (flN xss) xss word f else 0
theorem IsMan.pos {xss : List (List Int)} (h : IsMan xss) {N : Nat} (hx : xss.length = N) : 0 < N := by have := h.r1; omega

set_option maxHeartbeats 1600000 in
theorem iRun_any {A A2 : Option Addr} {c c2 N m : Nat} {xss : List (List Int)} {word : List Int} (f : Int) (w : World) (hx : xss.length = N) (ha : RdSS w A xss) (hN : N ≤ 1048576) (hr : ∀ xs ∈ xss, (xs.length : Int) ≤ 1048576) (hy : word.length = m) (ha2 : Rd w A2 (ints word)) (hm : m ≤ 1048576) :
    Calls Try.prog 70 #[.agg #[.slice A N c], .int .i64 f, .slice A2 m c2] w fun e w' => e = .returned (.tuple #[.int .i64 (runR xss f word), .int .i64 (runC xss f word)]) ∧ Below w.heap.size w w' := by
  have HX := Lib.hid hx
  have HA := Lib.hid ha
  have HR := Lib.hid hr
  have HY := Lib.hid hy
  have HA2 := Lib.hid ha2
  cases ho : okMan xss
  · have h1 := Lib.hid (show runR xss f word = 0 by simp [runR, ho])
    have h2 := Lib.hid (show runC xss f word = 1 by simp [runC, ho])
    have HO := Lib.hid ho
    clear hx ha hr hy ha2 ho
    go_enter Try.func70, Try.ntmps70
    go_wp2_with fail
    refine (iMan_any _ HX.out (HA.out.al _) hN HR.out).mono ?_
    rintro e w1 ⟨rfl, bel⟩
    rw [HO.out]
    go_wp2
    go_ret2
    exact ⟨ret2_i64 h1.out.symm h2.out.symm, (below1 w _).trans (bel.mono (by simp))⟩
  · have hman := okMan_iff.1 ho
    have h1 := Lib.hid (show runR xss f word = appR (flN xss) xss word f by simp [runR, ho])
    have h2 := Lib.hid (show runC xss f word = appC (flN xss) xss word f by simp [runC, ho])
    have hpos := hman.pos hx
    obtain ⟨b, o, A0, c0, rfl, hc0⟩ := man_row0 hman ha
    obtain ⟨n, hn⟩ : ∃ n, flN xss = n := ⟨_, rfl⟩
    rw [hn] at hc0 h1 h2
    have HC0 := Lib.hid hc0
    have HO := Lib.hid ho
    have BX0 := Lib.hid (Bx.start w (.slice (some ⟨b, o, none⟩) N c) 51)
    clear hx ha hr hy ha2 ho hman hn hc0
    go_enter Try.func70, Try.ntmps70
    go_wp2_with fail
    refine (iMan_any _ HX.out (HA.out.al _) hN HR.out).mono ?_
    rintro e w1 ⟨rfl, bel⟩
    rw [HO.out]
    have BX1 := Lib.hid (BX0.out.go bel)
    have HC1 := Lib.hid (cell_be (cell_al HC0.out _) bel)
    have HA1 := Lib.hid (HA.out.keep BX1.out.below)
    have HA21 := Lib.hid (HA2.out.keep BX1.out.below)
    have hbc := BelowOf.cell BX1.out.cell
    clear bel BX0
    go_wp2_with fail
    refine wp_region_quiet_below (by kernel_rfl) (by kernel_rfl) ?_
    repeat (go_big_quiet_step ((first | (go_at_call 127; exact Calls.below_of (flags_bel _ hpos (BelowOf.cell HC1.out _))) | (go_at_call 39; exact Calls.below_of (iapp_any _ _ _ HX.out (HA1.out.keep (BelowOf.h _)) hN HR.out HY.out (HA21.out.keep (BelowOf.h _)) hm)))))
    refine wpQuiet_nil ?_
    intro _ hw'
    obtain ⟨⟨wq, hbq⟩, hw''⟩ := hw'
    subst hw''
    go_wp2
    go_ret2
    exact ⟨ret2_i64 h1.out.symm h2.out.symm, (BX1.out.go hbq).below⟩

set_option maxHeartbeats 1600000 in
theorem sRun_any {A A2 : Option Addr} {c c2 N m : Nat} {xss : List (List Int)} {word : List Int} (f : Int) (w : World) (hx : xss.length = N) (ha : RdSS w A xss) (hN : N ≤ 1048576) (hr : ∀ xs ∈ xss, (xs.length : Int) ≤ 1048576) (hy : word.length = m) (ha2 : Rd w A2 (ints word)) (hm : m ≤ 1048576) :
    Calls Try.prog 91 #[.agg #[.slice A N c], .int .i64 f, .slice A2 m c2] w fun e w' => e = .returned (.tuple #[.int .i64 (runR xss f word), .int .i64 (runC xss f word)]) ∧ Below w.heap.size w w' := by
  have HX := Lib.hid hx
  have HA := Lib.hid ha
  have HR := Lib.hid hr
  have HY := Lib.hid hy
  have HA2 := Lib.hid ha2
  cases ho : okMan xss
  · have h1 := Lib.hid (show runR xss f word = 0 by simp [runR, ho])
    have h2 := Lib.hid (show runC xss f word = 1 by simp [runC, ho])
    have HO := Lib.hid ho
    clear hx ha hr hy ha2 ho
    go_enter Try.func91, Try.ntmps91
    go_wp2_with fail
    refine (sIs_any _ HX.out (HA.out.al _) hN HR.out).mono ?_
    rintro e w1 ⟨rfl, bel⟩
    rw [HO.out]
    go_wp2
    go_ret2
    exact ⟨ret2_i64 h1.out.symm h2.out.symm, (below1 w _).trans (bel.mono (by simp))⟩
  · have hman := okMan_iff.1 ho
    have hsys := hman.sys
    have hn4 := hman.f4
    have h1 := show runR xss f word = appR (flN xss) xss word f by simp [runR, ho]
    have h2 := show runC xss f word = appC (flN xss) xss word f by simp [runC, ho]
    have hpos := hman.pos hx
    obtain ⟨b, o, A0, c0, rfl, hc0⟩ := man_row0 hman ha
    obtain ⟨n, hn⟩ : ∃ n, flN xss = n := ⟨_, rfl⟩
    rw [hn] at hc0 h1 h2 hsys hn4
    have HC0 := Lib.hid hc0
    have HO := Lib.hid ho
    have HSY := Lib.hid hsys
    have BX0 := Lib.hid (Bx.start w (.slice (some ⟨b, o, none⟩) N c) 51)
    have hn6 : n ≤ 1048576 := by omega
    have HF1 := Lib.hid h1
    have HF2 := Lib.hid h2
    clear hx ha hr hy ha2 ho hman hn hc0 hsys h1 h2
    cases hf : flagB n f
    · have h1 := Lib.hid (show runR xss f word = 0 by
        rw [HF1.out]; unfold appR; rw [HSY.out]
        have : wordIn n word f = false := decide_eq_false (by have := flagB_false hf; omega)
        simp [this])
      have h2 := Lib.hid (show runC xss f word = 2 by
        rw [HF2.out]; unfold appC; rw [HSY.out]
        have : wordIn n word f = false := decide_eq_false (by have := flagB_false hf; omega)
        simp [this])
      have HFL := Lib.hid hf
      clear hf
      go_enter Try.func91, Try.ntmps91
      go_wp2_with fail
      refine (sIs_any _ HX.out (HA.out.al _) hN HR.out).mono ?_
      rintro e w1 ⟨rfl, bel⟩
      rw [HO.out]
      have BX1 := Lib.hid (BX0.out.go bel)
      have HC1 := Lib.hid (cell_be (cell_al HC0.out _) bel)
      have hbc := BX1.out.cell
      clear bel BX0
      go_wp2_with fail
      refine (sFlag_bel _ _ hpos HC1.out hn6 HFL.out).mono ?_
      rintro e w2 ⟨rfl, bel⟩
      have BX2 := Lib.hid (BX1.out.go bel)
      clear bel
      go_wp2
      go_ret2
      exact ⟨ret2_i64 h1.out.symm h2.out.symm, BX2.out.below⟩
    · obtain ⟨p, rfl, hp⟩ := flagB_true hf
      have HFL := Lib.hid hf
      clear hf
      cases hwb : wordB xss word
      · have hno : (wordIn n word p && wordOk xss word) = false := by
          unfold wordB at hwb
          cases h3 : wordOk xss word
          · simp
          · rw [h3, Bool.true_and] at hwb
            have h4 := of_decide_eq_false hwb
            have : wordIn n word p = false := decide_eq_false (by omega)
            rw [this]; rfl
        have h1 := Lib.hid (show runR xss (p : Int) word = 0 by rw [HF1.out]; unfold appR; rw [HSY.out, hno]; simp)
        have h2 := Lib.hid (show runC xss (p : Int) word = 2 by rw [HF2.out]; unfold appC; rw [HSY.out, hno]; simp)
        have HWB := Lib.hid hwb
        clear hwb hno
        go_enter Try.func91, Try.ntmps91
        go_wp2_with fail
        refine (sIs_any _ HX.out (HA.out.al _) hN HR.out).mono ?_
        rintro e w1 ⟨rfl, bel⟩
        rw [HO.out]
        have BX1 := Lib.hid (BX0.out.go bel)
        have HC1 := Lib.hid (cell_be (cell_al HC0.out _) bel)
        have hbc := BX1.out.cell
        clear bel BX0
        go_wp2_with fail
        refine (sFlag_bel _ _ hpos HC1.out hn6 HFL.out).mono ?_
        rintro e w2 ⟨rfl, bel⟩
        have BX2 := Lib.hid (BX1.out.go bel)
        have HA22 := Lib.hid (HA2.out.keep BX2.out.below)
        have hbc2 := BX2.out.cell
        clear bel
        go_wp2_with fail
        refine (sWord_bel _ HX.out hN HY.out HA22.out hm).mono ?_
        rintro e w3 ⟨rfl, bel⟩
        rw [HWB.out]
        have BX3 := Lib.hid (BX2.out.go bel)
        clear bel
        go_wp2
        go_ret2
        exact ⟨ret2_i64 h1.out.symm h2.out.symm, BX3.out.below⟩
      · have hwo : wordOk xss word = true ∧ word.length ≤ 64 := by
          unfold wordB at hwb
          simpa using hwb
        have hyes : (wordIn n word p && wordOk xss word) = true := by
          rw [hwo.1, Bool.and_true]
          exact decide_eq_true (by omega)
        have h1 := Lib.hid (show runR xss (p : Int) word = runW xss p word by rw [HF1.out]; unfold appR; rw [HSY.out, hyes]; simp)
        have h2 := Lib.hid (show runC xss (p : Int) word = 0 by rw [HF2.out]; unfold appC; rw [HSY.out, hyes]; simp)
        have HWB := Lib.hid hwb
        have HWO := Lib.hid hwo.1
        clear hwb hyes hwo
        go_enter Try.func91, Try.ntmps91
        go_wp2_with fail
        refine (sIs_any _ HX.out (HA.out.al _) hN HR.out).mono ?_
        rintro e w1 ⟨rfl, bel⟩
        rw [HO.out]
        have BX1 := Lib.hid (BX0.out.go bel)
        have HC1 := Lib.hid (cell_be (cell_al HC0.out _) bel)
        have hbc := BX1.out.cell
        clear bel BX0
        go_wp2_with fail
        refine (sFlag_bel _ _ hpos HC1.out hn6 HFL.out).mono ?_
        rintro e w2 ⟨rfl, bel⟩
        have BX2 := Lib.hid (BX1.out.go bel)
        have HA22 := Lib.hid (HA2.out.keep BX2.out.below)
        have hbc2 := BX2.out.cell
        clear bel
        go_wp2_with fail
        refine (sWord_bel _ HX.out hN HY.out HA22.out hm).mono ?_
        rintro e w3 ⟨rfl, bel⟩
        rw [HWB.out]
        have BX3 := Lib.hid (BX2.out.go bel)
        have HA23 := Lib.hid (HA2.out.keep BX3.out.below)
        have HA3 := Lib.hid (HA.out.keep BX3.out.below)
        have hbc3 := BX3.out.cell
        clear bel
        go_wp2_with fail
        refine (sRunL_bel p _ HX.out HA3.out HSY.out HY.out HA23.out hm hp HWO.out).mono ?_
        rintro e w4 ⟨rfl, bel⟩
        have BX4 := Lib.hid (BX3.out.go bel)
        clear bel
        go_wp2
        go_ret2
        exact ⟨ret2_i64 h1.out.symm h2.out.symm, BX4.out.below⟩
end Go.Proofs.Ytjkddoiacifhpaa
