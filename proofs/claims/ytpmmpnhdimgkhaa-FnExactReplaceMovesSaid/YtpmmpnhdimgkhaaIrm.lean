/- impl.isWord, areWords, ReplaceMoves. -/
import Derived.Test.YtpmmpnhdimgkhaaIdb
import Derived.Test.YtpmmpnhdimgkhaaRm
import Derived.Test.YtpmmpnhdimgkhaaL8
namespace Go.Proofs.Ytpmmpnhdimgkhaa
open Go.RowKit

theorem wordB_no {xss : List (List Int)} {wd : List Int} {x : Int} (hx : x ∈ wd) (h : ¬ (0 ≤ x ∧ x < (xss.length : Int))) : wordB xss wd = false := by
  unfold wordB wordOk
  rw [decide_eq_false (fun h2 => h (h2 x hx))]
  rfl
set_option maxHeartbeats 800000 in
theorem iword_any {A B : Option Addr} {c N m d : Nat} {xss : List (List Int)} {wd : List Int} (w : World) (hx : xss.length = N) (hl : wd.length = m) (hb : Rd w B (ints wd)) (hm : m ≤ 1048576) :
    Calls Try.prog 152 #[.agg #[.slice A N c], .slice B m d] w fun e w' => e = .returned (.bool (wordB xss wd)) ∧ Below w.heap.size w w' := by
  have HX := Lib.hid hx
  have HL := Lib.hid hl
  have HB := Lib.hid hb
  have st0 := (St.start w).addBlk #[.slice A N c] 42
  have S0 := Lib.hid st0
  clear st0
  by_cases h64 : m ≤ 64
  · have hm2 : ¬ (64 : Int) < (m : Int) := by omega
    clear hx hl hb
    go_enter Try.func152, Try.ntmps152
    go_wp2
    go_loopw [12] (fun v wr => ∃ k : Nat, k ≤ m ∧ v = .int .i64 k ∧ St w wr [.blk w.heap.size #[.slice A N c] 42] ∧ wordOk xss (wd.take k) = true) (fun v _ => m - (intOf v).toNat)
    case atStart => exact ⟨0, Nat.zero_le _, rfl, S0.out, by simp [wordOk]⟩
    case round =>
      obtain ⟨k, hk, rfl, st, hok⟩ := hrel
      clear S0
      by_cases hkm : k < m
      · obtain ⟨b2, o2, x, rfl, hxk, hcw⟩ := (HB.out.keep st.below).int (k := k) (by rw [HL.out]; exact hkm)
        have hbc := (st.blk (i := 0) rfl).cell (i := 0) rfl
        have S3 := Lib.hid st
        have HXK := Lib.hid hxk
        have HOK := Lib.hid hok
        have kI : (k : Int) < (m : Int) := by omega
        clear st hxk hok
        cases hf : flagB N x
        · have HE := Lib.hid (wordB_no (xss := xss) (List.mem_of_getElem? HXK.out) (by rw [HX.out]; simpa [flagB] using hf))
          have HF := Lib.hid hf
          clear hf
          go_wp2_with fail
          refine (iRank_bel x _ HF.out).mono ?_
          rintro e w1 ⟨rfl, bel⟩
          have S4 := Lib.hid (S3.out.go bel)
          clear bel hbc hcw
          go_wp2
          go_ret
          exact ⟨ret_bool HE.out.symm, S4.out.below⟩
        · have HF := Lib.hid hf
          have HOK2 := Lib.hid (show wordOk xss (wd.take (k + 1)) = true from decide_eq_true fun y hy => by
            rw [List.take_add_one, HXK.out] at hy
            rcases List.mem_append.1 hy with h | h
            · exact (of_decide_eq_true HOK.out) y h
            · simp at h
              subst h
              rw [HX.out]
              simpa [flagB] using hf)
          clear hf
          go_wp2_with fail
          refine (iRank_bel x _ HF.out).mono ?_
          rintro e w1 ⟨rfl, bel⟩
          have S4 := Lib.hid (S3.out.go bel)
          clear bel hbc hcw
          go_wp2
          go_roundw
          case rel => exact ⟨k + 1, by omega, by go_num, S4.out, HOK2.out⟩
          case measure => simp [intOf]; omega
      · obtain rfl : k = m := by omega
        rw [List.take_of_length_le (by rw [HL.out]; exact Nat.le_refl _)] at hok
        have HE := Lib.hid (show wordB xss wd = true by rw [wordB, hok, HL.out]; simpa using h64)
        have S3 := Lib.hid st
        clear st hok
        go_wp2
        go_ret
        exact ⟨ret_bool HE.out.symm, S3.out.below⟩
  · have hm2 : (64 : Int) < (m : Int) := by omega
    have HE := Lib.hid (show wordB xss wd = false by rw [wordB, hl, decide_eq_false h64, Bool.and_false])
    clear hx hl hb
    go_enter Try.func152, Try.ntmps152
    go_wp2
    go_ret
    exact ⟨ret_bool HE.out.symm, S0.out.below⟩

set_option maxHeartbeats 800000 in
theorem iwords_any {A B : Option Addr} {c N M d : Nat} {xss wss : List (List Int)} (w : World) (hx : xss.length = N) (hy : wss.length = M) (hb : RdSS w B wss) (hM : M ≤ 1048576) (hs : ∀ xs ∈ wss, (xs.length : Int) ≤ 1048576) :
    Calls Try.prog 103 #[.agg #[.slice A N c], .slice B M d] w fun e w' => e = .returned (.bool (wsB xss wss)) ∧ Below w.heap.size w w' := by
  have HX := Lib.hid hx
  have HY := Lib.hid hy
  have HB := Lib.hid hb
  have HSW := Lib.hid hs
  have st0 := (St.start w).addBlk #[.slice A N c] 42
  have S0 := Lib.hid st0
  clear st0
  by_cases hM5 : 1 ≤ M ∧ M ≤ 5
  · have hm1 : ¬ (M : Int) < 1 := by omega
    have hm2 : ¬ (5 : Int) < (M : Int) := by omega
    clear hx hb hs
    go_enter Try.func103, Try.ntmps103
    go_wp2
    go_loopw [17] (fun v wr => ∃ k : Nat, k ≤ M ∧ v = .int .i64 k ∧ St w wr [.blk w.heap.size #[.slice A N c] 42] ∧ (wss.take k).all (wordB xss) = true) (fun v _ => M - (intOf v).toNat)
    case atStart => exact ⟨0, Nat.zero_le _, rfl, S0.out, by simp⟩
    case round =>
      obtain ⟨k, hk, rfl, st, hok⟩ := hrel
      clear S0
      by_cases hkm : k < M
      · obtain ⟨b2, o2, A2, c2, wd, rfl, hwd, hcw, hrd, hms⟩ := (HB.out.keep st.below).row (k := k) (by rw [HY.out]; exact hkm)
        have hlw := HSW.out wd (List.mem_of_getElem? hwd)
        obtain ⟨l, hl⟩ : ∃ l, wd.length = l := ⟨_, rfl⟩
        rw [hl] at hcw hlw
        have hbc := (st.blk (i := 0) rfl).cell (i := 0) rfl
        have S3 := Lib.hid st
        have HWD := Lib.hid hwd
        have HRD := Lib.hid hrd
        have HLW := Lib.hid hl
        have HOK := Lib.hid hok
        have kI : (k : Int) < (M : Int) := by omega
        have hl1 : l ≤ 1048576 := by omega
        clear st hwd hrd hl hok hms
        go_wp2_with fail
        refine (iword_any (xss := xss) _ HX.out HLW.out (HRD.out.keep (Below.refl _ _)) hl1).mono ?_
        rintro e w1 ⟨rfl, bel⟩
        have S4 := Lib.hid (S3.out.go bel)
        clear bel hbc hcw
        cases hv : wordB xss wd
        · have HE := Lib.hid (show wsB xss wss = false by
            rw [wsB, Bool.and_eq_false_iff]
            refine .inr (List.all_eq_false.2 ⟨wd, List.mem_of_getElem? HWD.out, by simp [hv]⟩))
          clear hv
          go_wp2
          go_ret
          exact ⟨ret_bool HE.out.symm, S4.out.below⟩
        · have HOK2 := Lib.hid (show (wss.take (k + 1)).all (wordB xss) = true by
            rw [List.take_add_one, HWD.out, List.all_append, HOK.out]
            simp [hv])
          clear hv
          go_wp2
          go_roundw
          case rel => exact ⟨k + 1, by omega, by go_num, S4.out, HOK2.out⟩
          case measure => simp [intOf]; omega
      · obtain rfl : k = M := by omega
        rw [List.take_of_length_le (by rw [HY.out]; exact Nat.le_refl _)] at hok
        have HE := Lib.hid (show wsB xss wss = true by rw [wsB, hok, HY.out, decide_eq_true hM5]; rfl)
        have S3 := Lib.hid st
        clear st hok
        go_wp2
        go_ret
        exact ⟨ret_bool HE.out.symm, S3.out.below⟩
  · have HE := Lib.hid (show wsB xss wss = false by rw [wsB, hy, decide_eq_false hM5]; rfl)
    by_cases h1 : M < 1
    · have hm1 : (M : Int) < 1 := by omega
      clear hx hy hb hs hM5
      go_enter Try.func103, Try.ntmps103
      go_wp2
      go_ret
      exact ⟨ret_bool HE.out.symm, S0.out.below⟩
    · have hm1 : ¬ (M : Int) < 1 := by omega
      have hm2 : (5 : Int) < (M : Int) := by omega
      clear hx hy hb hs hM5
      go_enter Try.func103, Try.ntmps103
      go_wp2
      go_ret
      exact ⟨ret_bool HE.out.symm, S0.out.below⟩

set_option maxHeartbeats 1600000 in
set_option maxRecDepth 8000 in
theorem iReplaceMoves_any {A : Option Addr} {c N : Nat} {xss : List (List Int)} {B1 : Option Addr} {d1 m1 : Nat} {wss : List (List Int)} (w : World) (hx : xss.length = N) (ha : RdSS w A xss) (hN : N ≤ 1048576) (hr : ∀ xs ∈ xss, (xs.length : Int) ≤ 1048576)
    (hy : wss.length = m1) (hb : RdSS w B1 wss) (hm : m1 ≤ 1048576) (hs : ∀ xs ∈ wss, (xs.length : Int) ≤ 1048576) :
    Calls Try.prog 41 #[.agg #[.slice A N c], .slice B1 m1 d1] w (RetMC w (rmR xss wss) (rmC xss wss)) := by
  have HX := Lib.hid hx
  have HA := Lib.hid ha
  have HR := Lib.hid hr
  have HY := Lib.hid hy
  have HB := Lib.hid hb
  have HSW := Lib.hid hs
  have st0 := ((St.start w).addBlk #[.slice A N c] 42).addBlk #[.slice none 0 0] 42
  simp at st0
  have S0 := Lib.hid st0
  have hbc := (st0.blk (i := 0) rfl).cell (i := 0) rfl
  clear st0
  cases ho : okMan xss
  · have h1 : rmR xss wss = [] := by simp [rmR, ho]
    have h2 : rmC xss wss = 1 := by simp [rmC, ho]
    rw [h1, h2]
    have HO := Lib.hid ho
    clear hx ha hr hy hb hs ho h1 h2
    go_enter Try.func41, Try.ntmps41
    go_wp2_with fail
    refine (iMan_any _ HX.out (HA.out.keep S0.out.below) hN HR.out).mono ?_
    rintro e w1 ⟨rfl, bel⟩
    rw [HO.out]
    have st1 := S0.out.go bel
    have z0 := (st1.blk (i := 1) rfl).cell (i := 0) rfl
    have f0 := (st1.blk (i := 1) rfl).free 0
    have S1 := Lib.hid st1
    clear bel hbc st1
    go_wp2
    have st4 := S1.out.blkSet (i := 1) rfl 0 (.slice none 0 0)
    have y0 := (st4.blk (i := 1) rfl).cell (i := 0) rfl
    refine bodyPost_ret (v := .tuple #[.agg #[.slice none 0 0], .int .i64 1]) (by simp [results, Try.results41, go_sem, y0]) rfl ⟨none, 0, rfl, ownSS_nil _ _ _ _, st4.below⟩
  · have hman := okMan_iff.1 ho
    have hsys := hman.sys
    have hn2 := hman.f2
    have hpos := hman.pos hx
    obtain ⟨b, o, A0, c0, rfl, hc0⟩ := man_row0 hman ha
    obtain ⟨n, hn⟩ : ∃ n, flN xss = n := ⟨_, rfl⟩
    rw [hn] at hc0 hsys hn2
    have hn0 : 0 < n := by omega
    have HC0 := Lib.hid hc0
    have HS := Lib.hid hsys
    have HO := Lib.hid ho
    cases hv : wsB xss wss
    · have h1 : rmR xss wss = [] := by simp [rmR, hv]
      have h2 : rmC xss wss = 2 := by simp [rmC, ho, hv]
      rw [h1, h2]
      have HV := Lib.hid hv
      clear hx ha hr hy hb hs ho hman hn hc0 hsys h1 h2 hv
      go_enter Try.func41, Try.ntmps41
      go_wp2_with fail
      refine (iMan_any _ HX.out (HA.out.keep S0.out.below) hN HR.out).mono ?_
      rintro e w1 ⟨rfl, bel⟩
      rw [HO.out]
      have S1 := Lib.hid (S0.out.go bel)
      clear bel hbc
      have hbc := (S1.out.blk (i := 0) rfl).cell (i := 0) rfl
      go_wp2_with fail
      refine (iwords_any (xss := xss) _ HX.out HY.out (HB.out.keep S1.out.below) hm HSW.out).mono ?_
      rintro e w2 ⟨rfl, bel⟩
      rw [HV.out]
      have st1 := S1.out.go bel
      have z0 := (st1.blk (i := 1) rfl).cell (i := 0) rfl
      have f0 := (st1.blk (i := 1) rfl).free 0
      have S2 := Lib.hid st1
      clear bel hbc st1
      go_wp2
      have st4 := S2.out.blkSet (i := 1) rfl 0 (.slice none 0 0)
      have y0 := (st4.blk (i := 1) rfl).cell (i := 0) rfl
      refine bodyPost_ret (v := .tuple #[.agg #[.slice none 0 0], .int .i64 2]) (by simp [results, Try.results41, go_sem, y0]) rfl ⟨none, 0, rfl, ownSS_nil _ _ _ _, st4.below⟩
    · have hw2 : (1 ≤ m1 ∧ m1 ≤ 5) ∧ ∀ wd ∈ wss, wordB xss wd = true := by
        have h := hv
        unfold wsB at h
        rw [Bool.and_eq_true] at h
        exact ⟨by rw [← hy]; exact of_decide_eq_true h.1, List.all_eq_true.1 h.2⟩
      obtain ⟨L, hL⟩ : ∃ L, rmR xss wss = L := ⟨_, rfl⟩
      obtain ⟨C, hC⟩ : ∃ C, rmC xss wss = C := ⟨_, rfl⟩
      have e1 : rpR xss n wss = L := by rw [← hL]; simp only [rmR, rpR, ho, hv, hn, true_and]
      have e2 : rpC xss n wss = C := by rw [← hC]; simp only [rmC, rpC, ho, hv, hn, if_true]
      rw [hL, hC]
      have HE1 := Lib.hid e1
      have HE2 := Lib.hid e2
      have HV := Lib.hid hv
      have HWW := Lib.hid (fun wd h => wordB_ok (hw2.2 wd h))
      have hw1 := hw2.1.1
      have hw5 := hw2.1.2
      clear hx ha hr hy hb hs ho hman hn hc0 hsys hv hL hC e1 e2 hw2
      go_enter Try.func41, Try.ntmps41
      go_wp2_with fail
      refine (iMan_any _ HX.out (HA.out.keep S0.out.below) hN HR.out).mono ?_
      rintro e w1 ⟨rfl, bel⟩
      rw [HO.out]
      have S1 := Lib.hid (S0.out.go bel)
      clear bel hbc
      have hbc := (S1.out.blk (i := 0) rfl).cell (i := 0) rfl
      go_wp2_with fail
      refine (iwords_any (xss := xss) _ HX.out HY.out (HB.out.keep S1.out.below) hm HSW.out).mono ?_
      rintro e w2 ⟨rfl, bel⟩
      rw [HV.out]
      have S2 := Lib.hid (S1.out.go bel)
      clear bel hbc
      have hbc := (S2.out.blk (i := 0) rfl).cell (i := 0) rfl
      go_wp2_with fail
      refine (irep_any _ HX.out (HA.out.keep S2.out.below) HS.out (cell_be HC0.out S2.out.below) hpos hn0 HY.out (HB.out.keep S2.out.below) hw1 hw5 HWW.out).mono ?_
      rintro e w3 ⟨A2, c2, rfl, own2, bel2⟩
      rw [HE1.out] at own2 ⊢
      rw [HE2.out]
      obtain ⟨vals, st⟩ := S2.out.addRows bel2 own2 (Nat.le_refl _) (Nat.le_refl _)
      have z0 := (st.blk (i := 1) rfl).cell (i := 0) rfl
      have f0 := (st.blk (i := 1) rfl).free 0
      have S3 := Lib.hid st
      clear st own2 bel2 hbc
      go_wp2
      have st4 := S3.out.blkSet (i := 1) rfl 0 (.slice A2 L.length c2)
      have y0 := (st4.blk (i := 1) rfl).cell (i := 0) rfl
      exact bodyPost_ret (v := .tuple #[.agg #[.slice A2 L.length c2], .int .i64 C]) (by simp [results, Try.results41, go_sem, y0]) rfl ⟨A2, c2, rfl, st4.sep.ownSS (i := 2) rfl, st4.below⟩
end Go.Proofs.Ytpmmpnhdimgkhaa
