/- impl.operated (written by giop.py). -/
import Derived.Test.YtmikoihpmhfafaaIop
namespace Go.Proofs.Ytmikoihpmhfafaa
open Go.RowKit

set_option maxHeartbeats 3200000 in
set_option maxRecDepth 100000 in
theorem iophal_any {b o c n c0 : Nat} {A0 : Option Addr} {xss : List (List Int)} (k : Int) (w : World) (hx : xss.length = 3) (ha : RdSS w (some ⟨b, o, none⟩) xss) (hsys : okSys n xss = true) (h0 : w.cell? ⟨b, o, none⟩ = some (.slice A0 n c0))  (hn : 0 < n)   :
    Calls Try.prog 109 #[.agg #[.slice (some ⟨b, o, none⟩) 3 c], .int .i64 4, .int .i64 k] w (RetMC w (rpR xss n ha5W) (rpC xss n ha5W)) := by
  obtain ⟨L, hL⟩ : ∃ L, rpR xss n ha5W = L := ⟨_, rfl⟩
  obtain ⟨C, hC⟩ : ∃ C, rpC xss n ha5W = C := ⟨_, rfl⟩
  obtain ⟨l, hl⟩ : ∃ l, L.length = l := ⟨_, rfl⟩
  rw [hL, hC]
  have HLL := Lib.hid hL
  have HCC := Lib.hid hC
  have HLN := Lib.hid hl
  clear hL hC hl
  have HX := Lib.hid hx
  have HA := Lib.hid ha
  have HS := Lib.hid hsys
  have HC0 := Lib.hid h0
  have st0 := ((St.start w).addBlk #[.slice (some ⟨b, o, none⟩) 3 c] 26).addBlk #[.slice none 0 0] 26
  have st1 := st0.addBlk opsC 139
  simp at st0 st1
  have k0 := (st1.blk (i := 2) rfl).cell (i := 12) rfl
  have k1 := (st1.blk (i := 2) rfl).cell (i := 13) rfl
  have k2 := (st1.blk (i := 2) rfl).cell (i := 14) rfl
  have S2 := Lib.hid (opd_start w (.slice (some ⟨b, o, none⟩) 3 c) (.int .i64 3) (.int .i64 3) (.func (.func 204) #[] #[]))
  obtain ⟨W, hW⟩ : ∃ W, W = ((((w.alloc (.cells #[.slice (some ⟨b, o, none⟩) 3 c] 26)).alloc (.cells #[.slice none 0 0] 26)).alloc (.cells opsC 139)).alloc (.cells #[.int .i64 3, .int .i64 3, .func (.func 204) #[] #[]] 139)) := ⟨_, rfl⟩
  rw [← hW] at S2
  have HWD := Lib.hid hW
  have c0 := (S2.out.blk (i := 0) rfl).cell (i := 0) rfl
  have c1 := (S2.out.blk (i := 3) rfl).cell (i := 0) rfl
  have c2 := (S2.out.blk (i := 3) rfl).cell (i := 1) rfl
  clear hx ha hsys h0 st0 st1 hW
  go_enter Try.func109, Try.ntmps109
  go_wp2_with fail
  refine (ops_any _).mono ?_
  rintro e w1 ⟨rfl, rfl⟩
  go_wp2_with fail
  rw [← HWD.out]
  clear k0 k1 k2
  have p0 := BelowOf.cell c0
  have p1 := BelowOf.cell c1
  have p2 := BelowOf.cell c2
  clear c0 c1 c2
  refine wp_region_quiet_below (by kernel_rfl) (by kernel_rfl) ?_
  repeat (go_big_quiet_step ((go_at_call 102; exact Calls.below_of (rank_bel _))))
  refine wpQuiet_nil ?_
  intro wq hw'
  obtain ⟨⟨wv, hbq⟩, hw''⟩ := hw'
  subst hw''
  have S3 := Lib.hid (S2.out.go hbq)
  clear p0 p1 p2 hbq
  have c0 := (S3.out.blk (i := 0) rfl).cell (i := 0) rfl
  have c3 := (S3.out.blk (i := 3) rfl).cell (i := 2) rfl
  have z0 := (S3.out.blk (i := 1) rfl).cell (i := 0) rfl
  have f0 := (S3.out.blk (i := 1) rfl).free 0
  go_wp2
  go_region_law ((first
    | (go_simp; go_at_call 102
       refine (rank_bel _).mono ?_
       rintro e w4 ⟨rfl, bel4⟩
       have S4 := Lib.hid ((S3.out.go (below_drewN (Below.refl _ _) 1)).go bel4)
       have c04 := (S4.out.blk (i := 0) rfl).cell (i := 0) rfl
       have c34 := (S4.out.blk (i := 3) rfl).cell (i := 2) rfl)
    | (go_simp; go_at_call 204
       refine (ihalfW_any 3 k _).mono ?_
       rintro e w5 ⟨A5, c5, rfl, rd5, bel5⟩
       have S5 := Lib.hid (S4.out.go bel5)
       have c05 := (S5.out.blk (i := 0) rfl).cell (i := 0) rfl
       have HRD := Lib.hid rd5
       clear rd5)
    | (go_simp; go_at_call 116
       refine (irep_any _ HX.out (HA.out.keep S5.out.below) HS.out (cell_be HC0.out S5.out.below) (by decide) hn (by rfl) HRD.out (by decide) (by decide) (ha5W_ok HX.out)).mono ?_
       rintro e w6 ⟨A6, c6, rfl, own6, bel6⟩
       rw [HLL.out, HLN.out] at own6
       rw [HLL.out, HCC.out, HLN.out]
       obtain ⟨vals, st6⟩ := S5.out.addRows bel6 own6 (Nat.le_refl _) (Nat.le_refl _)
       have z6 := (st6.blk (i := 1) rfl).cell (i := 0) rfl
       have f6 := (st6.blk (i := 1) rfl).free 0
       have S6 := Lib.hid st6
       clear st6 own6 bel6)))
  all_goals
    have st7 := S6.out.blkSet (i := 1) rfl 0 (.slice A6 l c6)
    have y0 := (st7.blk (i := 1) rfl).cell (i := 0) rfl
    go_wp2
    refine bodyPost_ret (v := .tuple #[.agg #[.slice A6 l c6], .int .i64 C]) (by simp [results, Try.results109, go_sem, y0]) rfl ⟨A6, c6, by rw [HLN.out], ?_, st7.below⟩
    rw [HLN.out]
    exact st7.sep.ownSS (i := 4) rfl


set_option maxHeartbeats 3200000 in
set_option maxRecDepth 100000 in
theorem iophal_no {b o c N n c0 : Nat} {A0 : Option Addr} {xss : List (List Int)} (k : Int) (w : World) (hx : xss.length = N) (ha : RdSS w (some ⟨b, o, none⟩) xss) (hsys : okSys n xss = true) (h0 : w.cell? ⟨b, o, none⟩ = some (.slice A0 n c0)) (h3 : N < 3) :
    Calls Try.prog 109 #[.agg #[.slice (some ⟨b, o, none⟩) N c], .int .i64 4, .int .i64 k] w (RetMC w [] 5) := by
  have j1 : (N : Int) < 3 := by omega
  have j3 : decide ((N : Int) < 3) = true := decide_eq_true j1
  have HX := Lib.hid hx
  have HA := Lib.hid ha
  have HS := Lib.hid hsys
  have HC0 := Lib.hid h0
  have st0 := ((St.start w).addBlk #[.slice (some ⟨b, o, none⟩) N c] 26).addBlk #[.slice none 0 0] 26
  have st1 := st0.addBlk opsC 139
  simp at st0 st1
  have k0 := (st1.blk (i := 2) rfl).cell (i := 12) rfl
  have k1 := (st1.blk (i := 2) rfl).cell (i := 13) rfl
  have k2 := (st1.blk (i := 2) rfl).cell (i := 14) rfl
  have S2 := Lib.hid (opd_start w (.slice (some ⟨b, o, none⟩) N c) (.int .i64 3) (.int .i64 3) (.func (.func 204) #[] #[]))
  obtain ⟨W, hW⟩ : ∃ W, W = ((((w.alloc (.cells #[.slice (some ⟨b, o, none⟩) N c] 26)).alloc (.cells #[.slice none 0 0] 26)).alloc (.cells opsC 139)).alloc (.cells #[.int .i64 3, .int .i64 3, .func (.func 204) #[] #[]] 139)) := ⟨_, rfl⟩
  rw [← hW] at S2
  have HWD := Lib.hid hW
  have c0 := (S2.out.blk (i := 0) rfl).cell (i := 0) rfl
  have c1 := (S2.out.blk (i := 3) rfl).cell (i := 0) rfl
  have c2 := (S2.out.blk (i := 3) rfl).cell (i := 1) rfl
  clear hx ha hsys h0 st0 st1 hW
  go_enter Try.func109, Try.ntmps109
  go_wp2_with fail
  refine (ops_any _).mono ?_
  rintro e w1 ⟨rfl, rfl⟩
  go_wp2_with fail
  rw [← HWD.out]
  clear k0 k1 k2
  have p0 := BelowOf.cell c0
  have p1 := BelowOf.cell c1
  have p2 := BelowOf.cell c2
  clear c0 c1 c2
  refine wp_region_quiet_below (by kernel_rfl) (by kernel_rfl) ?_
  repeat (go_big_quiet_step ((go_at_call 102; exact Calls.below_of (rank_bel _))))
  refine wpQuiet_nil ?_
  intro wq hw'
  obtain ⟨⟨wv, hbq⟩, hw''⟩ := hw'
  subst hw''
  have S3 := Lib.hid (S2.out.go hbq)
  clear p0 p1 p2 hbq
  have c0 := (S3.out.blk (i := 0) rfl).cell (i := 0) rfl
  have z0 := (S3.out.blk (i := 1) rfl).cell (i := 0) rfl
  have f0 := (S3.out.blk (i := 1) rfl).free 0
  go_wp2
  have st4 := S3.out.blkSet (i := 1) rfl 0 (.slice none 0 0)
  have y0 := (st4.blk (i := 1) rfl).cell (i := 0) rfl
  refine bodyPost_ret (v := .tuple #[.agg #[.slice none 0 0], .int .i64 5]) (by simp [results, Try.results109, go_sem, y0]) rfl ⟨none, 0, rfl, ownSS_nil _ _ _ _, st4.below⟩


set_option maxHeartbeats 3200000 in
set_option maxRecDepth 100000 in
theorem iophal_no2 {b o c N n c0 : Nat} {A0 : Option Addr} {xss : List (List Int)} (k : Int) (w : World) (hx : xss.length = N) (ha : RdSS w (some ⟨b, o, none⟩) xss) (hsys : okSys n xss = true) (h0 : w.cell? ⟨b, o, none⟩ = some (.slice A0 n c0)) (h3 : 3 < N) :
    Calls Try.prog 109 #[.agg #[.slice (some ⟨b, o, none⟩) N c], .int .i64 4, .int .i64 k] w (RetMC w [] 5) := by
  have j1 : ¬ (N : Int) < 3 := by omega
  have j2 : (3 : Int) < (N : Int) := by omega
  have j3 : decide ((N : Int) < 3) = false := decide_eq_false j1
  have j4 : decide ((3 : Int) < (N : Int)) = true := decide_eq_true j2
  have HX := Lib.hid hx
  have HA := Lib.hid ha
  have HS := Lib.hid hsys
  have HC0 := Lib.hid h0
  have st0 := ((St.start w).addBlk #[.slice (some ⟨b, o, none⟩) N c] 26).addBlk #[.slice none 0 0] 26
  have st1 := st0.addBlk opsC 139
  simp at st0 st1
  have k0 := (st1.blk (i := 2) rfl).cell (i := 12) rfl
  have k1 := (st1.blk (i := 2) rfl).cell (i := 13) rfl
  have k2 := (st1.blk (i := 2) rfl).cell (i := 14) rfl
  have S2 := Lib.hid (opd_start w (.slice (some ⟨b, o, none⟩) N c) (.int .i64 3) (.int .i64 3) (.func (.func 204) #[] #[]))
  obtain ⟨W, hW⟩ : ∃ W, W = ((((w.alloc (.cells #[.slice (some ⟨b, o, none⟩) N c] 26)).alloc (.cells #[.slice none 0 0] 26)).alloc (.cells opsC 139)).alloc (.cells #[.int .i64 3, .int .i64 3, .func (.func 204) #[] #[]] 139)) := ⟨_, rfl⟩
  rw [← hW] at S2
  have HWD := Lib.hid hW
  have c0 := (S2.out.blk (i := 0) rfl).cell (i := 0) rfl
  have c1 := (S2.out.blk (i := 3) rfl).cell (i := 0) rfl
  have c2 := (S2.out.blk (i := 3) rfl).cell (i := 1) rfl
  clear hx ha hsys h0 st0 st1 hW
  go_enter Try.func109, Try.ntmps109
  go_wp2_with fail
  refine (ops_any _).mono ?_
  rintro e w1 ⟨rfl, rfl⟩
  go_wp2_with fail
  rw [← HWD.out]
  clear k0 k1 k2
  have p0 := BelowOf.cell c0
  have p1 := BelowOf.cell c1
  have p2 := BelowOf.cell c2
  clear c0 c1 c2
  refine wp_region_quiet_below (by kernel_rfl) (by kernel_rfl) ?_
  repeat (go_big_quiet_step ((go_at_call 102; exact Calls.below_of (rank_bel _))))
  refine wpQuiet_nil ?_
  intro wq hw'
  obtain ⟨⟨wv, hbq⟩, hw''⟩ := hw'
  subst hw''
  have S3 := Lib.hid (S2.out.go hbq)
  clear p0 p1 p2 hbq
  have c0 := (S3.out.blk (i := 0) rfl).cell (i := 0) rfl
  have z0 := (S3.out.blk (i := 1) rfl).cell (i := 0) rfl
  have f0 := (S3.out.blk (i := 1) rfl).free 0
  go_wp2
  have st4 := S3.out.blkSet (i := 1) rfl 0 (.slice none 0 0)
  have y0 := (st4.blk (i := 1) rfl).cell (i := 0) rfl
  refine bodyPost_ret (v := .tuple #[.agg #[.slice none 0 0], .int .i64 5]) (by simp [results, Try.results109, go_sem, y0]) rfl ⟨none, 0, rfl, ownSS_nil _ _ _ _, st4.below⟩

end Go.Proofs.Ytmikoihpmhfafaa
