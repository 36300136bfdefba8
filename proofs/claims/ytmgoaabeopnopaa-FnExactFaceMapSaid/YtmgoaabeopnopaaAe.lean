/- IsomorphismOf, AreIsomorphic, AutomorphismTo, AutomorphismsOf, CountAutomorphisms: impl's and the spec's. -/
import Derived.Test.YtmgoaabeopnopaaL19
import Derived.Test.YtmgoaabeopnopaaPl
import Derived.Lib.SliceRun
namespace Go.Proofs.Ytmgoaabeopnopaa
open Go.RowKit

set_option maxHeartbeats 800000 in
theorem szMl_any {A : Option Addr} {c n : Nat} {xss : List (List Int)} (left : Int) (w : World) (hl0 : 0 ≤ left) (hl1 : left ≤ 1048576) (hx : xss.length = n) (ha : RdSS w A xss) (hn : n ≤ 9223372036854775807) :
    Calls Try.prog 16 #[.agg #[.slice A n c], .int .i64 left] w fun e w' => ∃ r : Int, e = .returned (.int .i64 r) ∧ -1 ≤ r ∧ r ≤ 1048576 ∧ (0 ≤ r → (xss.length : Int) ≤ 1048576 ∧ ∀ xs ∈ xss, (xs.length : Int) ≤ 1048576) ∧ Below w.heap.size w w' := by
  have HX := Lib.hid hx
  have HA := Lib.hid ha
  clear hx ha
  go_enter Try.func16, Try.ntmps16
  go_wp2_with fail
  refine (szl_any left _ hl0 hl1 HX.out (HA.out.al _) hn).mono ?_
  rintro e w2 ⟨r, rfl, h0, h1, h2, rfl⟩
  have H2 := Lib.hid h2
  clear h2
  by_cases hneg : r < 0
  · go_wp2
    go_ret
    exact ⟨-1, rfl, by omega, by omega, by omega, below1 _ _⟩
  · go_wp2
    go_ret
    exact ⟨r, rfl, by omega, by omega, H2.out, below1 _ _⟩

set_option maxHeartbeats 3200000 in
set_option maxRecDepth 8000 in
theorem iAutomorphismTo_any {A : Option Addr} {c N : Nat} {xss : List (List Int)} (k1 : Int) (w : World) (hx : xss.length = N) (ha : RdSS w A xss) (hN : N ≤ 1048576) (hr : ∀ xs ∈ xss, (xs.length : Int) ≤ 1048576) :
    Calls Try.prog 67 #[.agg #[.slice A N c], .int .i64 k1] w (RetS w (atR xss k1) (atC xss k1)) := by
  have HX := Lib.hid hx
  have HA := Lib.hid ha
  have HR := Lib.hid hr
  have st0 := (St.start w).addBlk #[.slice A N c] 27
  have S0 := Lib.hid st0
  have x0 := (st0.blk (i := 0) rfl).cell (i := 0) rfl
  clear st0
  cases ho : okMan xss
  · have h1 : atR xss k1 = [] := by simp [atR, ho]
    have h2 : atC xss k1 = 1 := by simp [atC, ho]
    rw [h1, h2]
    have HO := Lib.hid ho
    clear hx ha hr ho h1 h2
    go_enter Try.func67, Try.ntmps67
    go_wp2_with fail
    refine (iMan_any _ HX.out (HA.out.keep S0.out.below) hN HR.out).mono ?_
    rintro e w1 ⟨rfl, bel⟩
    rw [HO.out]
    have S1 := Lib.hid (S0.out.go bel)
    have x1 := (S1.out.blk (i := 0) rfl).cell (i := 0) rfl
    clear bel x0
    clear x1
    go_wp2
    go_ret2
    exact ⟨none, 0, rfl, World.ownsRow_nil _ _ _ _, S1.out.below⟩
  · have hman := okMan_iff.1 ho
    have hsys := hman.sys
    have hn2 := hman.f2
    have hn4 := hman.f4
    have hpos := hman.pos hx
    have hall := hman.all (q := 0) (by omega)
    obtain ⟨b, o, A0, c0, rfl, hc0⟩ := man_row0 hman ha
    obtain ⟨n, hn⟩ : ∃ n, flN xss = n := ⟨_, rfl⟩
    rw [hn] at hc0 hsys hn2 hn4 hall
    have HC0 := Lib.hid hc0
    have HS := Lib.hid hsys
    have HALL := Lib.hid hall
    cases hf : flagB n k1
    · have h1 : atR xss k1 = [] := by simp [atR, ho, hn, hf]
      have h2 : atC xss k1 = 2 := by simp [atC, ho, hn, hf]
      rw [h1, h2]
      have HO := Lib.hid ho
      have HF := Lib.hid hf
      clear hx ha hr ho h1 h2 hf hman hsys hall hc0 hn
      go_enter Try.func67, Try.ntmps67
      go_wp2_with fail
      refine (iMan_any _ HX.out (HA.out.keep S0.out.below) hN HR.out).mono ?_
      rintro e w1 ⟨rfl, bel⟩
      rw [HO.out]
      have S1 := Lib.hid (S0.out.go bel)
      have x1 := (S1.out.blk (i := 0) rfl).cell (i := 0) rfl
      clear bel x0
      go_wp2_with fail
      refine (iFlag_bel _ _ hpos (cell_be HC0.out S1.out.below) (by omega) HF.out).mono ?_
      rintro e w2 ⟨rfl, bel⟩
      have S2 := Lib.hid (S1.out.go bel)
      clear bel x1
      go_wp2
      go_ret2
      exact ⟨none, 0, rfl, World.ownsRow_nil _ _ _ _, S2.out.below⟩
    · obtain ⟨p, rfl, hp⟩ := flagB_true hf
      obtain ⟨F, hF⟩ : ∃ F, isoL xss xss n p = F := ⟨_, rfl⟩
      obtain ⟨RR, hRR⟩ : ∃ R, F.getD [] = R := ⟨_, rfl⟩
      obtain ⟨CC, hCC⟩ : ∃ C : Int, (if F.isSome then 0 else 4) = C := ⟨_, rfl⟩
      have h1 : atR xss (p : Int) = RR := by simp [atR, ho, hn, hf, hF, ← hRR]
      have h2 : atC xss (p : Int) = CC := by simp [atC, ho, hn, hf, hF, ← hCC]
      have HRR := Lib.hid hRR
      have HCC := Lib.hid hCC
      clear hRR hCC
      rw [h1, h2]
      have HO := Lib.hid ho
      have HF := Lib.hid hf
      have HFF := Lib.hid hF
      have HLN := Lib.hid (fun L (h : isoL xss xss n p = some L) => isoL_len h)
      clear hx ha hr ho h1 h2 hf hman hsys hall hc0 hn hF
      have hq := fun (w : World) (a : Option Addr) (n c : Nat) => Lib.run_eql_slice_nil (P := Try.prog) w 36 2 a n c 0 0 Try.underlying36
      go_enter Try.func67, Try.ntmps67
      go_wp2_with fail
      refine (iMan_any _ HX.out (HA.out.keep S0.out.below) hN HR.out).mono ?_
      rintro e w1 ⟨rfl, bel⟩
      rw [HO.out]
      have S1 := Lib.hid (S0.out.go bel)
      have x1 := (S1.out.blk (i := 0) rfl).cell (i := 0) rfl
      clear bel x0
      go_wp2_with fail
      refine (iFlag_bel _ _ hpos (cell_be HC0.out S1.out.below) (by omega) HF.out).mono ?_
      rintro e w2 ⟨rfl, bel⟩
      have S2 := Lib.hid (S1.out.go bel)
      have x2 := (S2.out.blk (i := 0) rfl).cell (i := 0) rfl
      clear bel x1
      go_wp2_with fail
      refine (iisoTo_any (q := p) _ HX.out (HA.out.keep S2.out.below) HX.out (HA.out.keep S2.out.below) hN HS.out HS.out (cell_be HC0.out S2.out.below) hpos hp HALL.out).mono ?_
      rintro e w3 ⟨bel, ⟨hi, rfl⟩ | ⟨L, g, c3, hi, rfl, own⟩⟩
      · have S3 := Lib.hid (S2.out.go bel)
        have hFN := HFF.out.symm.trans hi
        obtain rfl : RR = [] := by rw [← HRR.out, hFN]; rfl
        obtain rfl : CC = 4 := by rw [← HCC.out, hFN]; rfl
        clear bel hi hFN
        go_wp2
        go_ret2
        exact ⟨none, 0, rfl, World.ownsRow_nil _ _ _ _, S3.out.below⟩
      · have S3 := Lib.hid (S2.out.go bel)
        have hFN := HFF.out.symm.trans hi
        have LEN := Lib.hid (HLN.out L hi)
        obtain rfl : RR = L := by rw [← HRR.out, hFN]; rfl
        obtain rfl : CC = 0 := by rw [← HCC.out, hFN]; rfl
        have OWN := Lib.hid (own_base own S2.out.lo)
        clear bel hi own hFN
        go_wp2
        go_ret2
        have hl := LEN.out
        have ho := OWN.out
        rw [← hl] at ho
        exact ⟨_, c3, by rw [← hl]; rfl, ho, S3.out.below⟩

set_option maxHeartbeats 3200000 in
set_option maxRecDepth 8000 in
theorem iAutomorphismsOf_any {A : Option Addr} {c N : Nat} {xss : List (List Int)} (w : World) (hx : xss.length = N) (ha : RdSS w A xss) (hN : N ≤ 1048576) (hr : ∀ xs ∈ xss, (xs.length : Int) ≤ 1048576) :
    Calls Try.prog 56 #[.agg #[.slice A N c]] w (fun e w' => ∃ A' c', e = .returned (.tuple #[.slice A' (auR xss).length c', .int .i64 (auC xss)]) ∧ OwnSS w' w.heap.size w'.heap.size 36 A' (auR xss).length c' (auR xss) ∧ Below w.heap.size w w') := by
  have HX := Lib.hid hx
  have HA := Lib.hid ha
  have HR := Lib.hid hr
  have st0 := (St.start w).addBlk #[.slice A N c] 27
  have S0 := Lib.hid st0
  have x0 := (st0.blk (i := 0) rfl).cell (i := 0) rfl
  clear st0
  cases ho : okMan xss
  · have h1 : auR xss = [] := by simp [auR, ho]
    have h2 : auC xss = 1 := by simp [auC, ho]
    rw [h1, h2]
    have HO := Lib.hid ho
    clear hx ha hr ho h1 h2
    go_enter Try.func56, Try.ntmps56
    go_wp2_with fail
    refine (iMan_any _ HX.out (HA.out.keep S0.out.below) hN HR.out).mono ?_
    rintro e w1 ⟨rfl, bel⟩
    rw [HO.out]
    have S1 := Lib.hid (S0.out.go bel)
    have x1 := (S1.out.blk (i := 0) rfl).cell (i := 0) rfl
    clear bel x0
    clear x1
    go_wp2
    go_ret2
    exact ⟨none, 0, rfl, ownSS_nil _ _ _ _, S1.out.below⟩
  · have h1 : auR xss = autL xss := by simp [auR, ho]
    have h2 : auC xss = 0 := by simp [auC, ho]
    rw [h1, h2]
    have HO := Lib.hid ho
    clear hx ha hr ho h1 h2
    go_enter Try.func56, Try.ntmps56
    go_wp2_with fail
    refine (iMan_any _ HX.out (HA.out.keep S0.out.below) hN HR.out).mono ?_
    rintro e w1 ⟨rfl, bel⟩
    rw [HO.out]
    have S1 := Lib.hid (S0.out.go bel)
    have x1 := (S1.out.blk (i := 0) rfl).cell (i := 0) rfl
    clear bel x0
    go_wp2_with fail
    refine (iauts_any _ HO.out HX.out (HA.out.keep S1.out.below)).mono ?_
    rintro e w2 ⟨A2, m, c2, rfl, hm, own, bel⟩
    have S2 := Lib.hid (S1.out.go bel)
    have OWN := Lib.hid (ownSS_wide own S1.out.lo (Nat.le_refl _))
    have HM := Lib.hid hm
    clear bel x1 own hm
    go_wp2
    go_ret2
    have hm := HM.out
    subst hm
    exact ⟨A2, c2, rfl, OWN.out, S2.out.below⟩

set_option maxHeartbeats 3200000 in
set_option maxRecDepth 8000 in
theorem iCountAutomorphisms_any {A : Option Addr} {c N : Nat} {xss : List (List Int)} (w : World) (hx : xss.length = N) (ha : RdSS w A xss) (hN : N ≤ 1048576) (hr : ∀ xs ∈ xss, (xs.length : Int) ≤ 1048576) :
    Calls Try.prog 59 #[.agg #[.slice A N c]] w (fun e w' => e = .returned (.tuple #[.int .i64 (((auR xss).length : Int)), .int .i64 (auC xss)]) ∧ Below w.heap.size w w') := by
  have HX := Lib.hid hx
  have HA := Lib.hid ha
  have HR := Lib.hid hr
  have st0 := (St.start w).addBlk #[.slice A N c] 27
  have S0 := Lib.hid st0
  have x0 := (st0.blk (i := 0) rfl).cell (i := 0) rfl
  clear st0
  cases ho : okMan xss
  · have h1 : auR xss = [] := by simp [auR, ho]
    have h2 : auC xss = 1 := by simp [auC, ho]
    rw [h1, h2]
    have HO := Lib.hid ho
    clear hx ha hr ho h1 h2
    go_enter Try.func59, Try.ntmps59
    go_wp2_with fail
    refine (iMan_any _ HX.out (HA.out.keep S0.out.below) hN HR.out).mono ?_
    rintro e w1 ⟨rfl, bel⟩
    rw [HO.out]
    have S1 := Lib.hid (S0.out.go bel)
    have x1 := (S1.out.blk (i := 0) rfl).cell (i := 0) rfl
    clear bel x0
    clear x1
    go_wp2
    go_ret2
    exact ⟨rfl, S1.out.below⟩
  · have h1 : auR xss = autL xss := by simp [auR, ho]
    have h2 : auC xss = 0 := by simp [auC, ho]
    rw [h1, h2]
    have HO := Lib.hid ho
    clear hx ha hr ho h1 h2
    go_enter Try.func59, Try.ntmps59
    go_wp2_with fail
    refine (iMan_any _ HX.out (HA.out.keep S0.out.below) hN HR.out).mono ?_
    rintro e w1 ⟨rfl, bel⟩
    rw [HO.out]
    have S1 := Lib.hid (S0.out.go bel)
    have x1 := (S1.out.blk (i := 0) rfl).cell (i := 0) rfl
    clear bel x0
    go_wp2_with fail
    refine (iauts_any _ HO.out HX.out (HA.out.keep S1.out.below)).mono ?_
    rintro e w2 ⟨A2, m, c2, rfl, hm, own, bel⟩
    have S2 := Lib.hid (S1.out.go bel)
    have OWN := Lib.hid (ownSS_wide own S1.out.lo (Nat.le_refl _))
    have HM := Lib.hid hm
    clear bel x1 own hm
    go_wp2
    go_ret2
    exact ⟨by rw [HM.out]; rfl, S2.out.below⟩

set_option maxHeartbeats 3200000 in
set_option maxRecDepth 8000 in
theorem sAutomorphismsOf_any {A : Option Addr} {c N : Nat} {xss : List (List Int)} (w : World) (hx : xss.length = N) (ha : RdSS w A xss) (hN : N ≤ 1048576) (hr : ∀ xs ∈ xss, (xs.length : Int) ≤ 1048576) :
    Calls Try.prog 57 #[.agg #[.slice A N c]] w (fun e w' => ∃ A' c', e = .returned (.tuple #[.slice A' (auR xss).length c', .int .i64 (auC xss)]) ∧ OwnSS w' w.heap.size w'.heap.size 36 A' (auR xss).length c' (auR xss) ∧ Below w.heap.size w w') := by
  have HX := Lib.hid hx
  have HA := Lib.hid ha
  have HR := Lib.hid hr
  have st0 := (St.start w).addBlk #[.slice A N c] 27
  have S0 := Lib.hid st0
  have x0 := (st0.blk (i := 0) rfl).cell (i := 0) rfl
  clear st0
  cases ho : okMan xss
  · have h1 : auR xss = [] := by simp [auR, ho]
    have h2 : auC xss = 1 := by simp [auC, ho]
    rw [h1, h2]
    have HO := Lib.hid ho
    clear hx ha hr ho h1 h2
    go_enter Try.func57, Try.ntmps57
    go_wp2_with fail
    refine (sIs_any _ HX.out (HA.out.keep S0.out.below) hN HR.out).mono ?_
    rintro e w1 ⟨rfl, bel⟩
    rw [HO.out]
    have S1 := Lib.hid (S0.out.go bel)
    have x1 := (S1.out.blk (i := 0) rfl).cell (i := 0) rfl
    clear bel x0
    clear x1
    go_wp2
    go_ret2
    exact ⟨none, 0, rfl, ownSS_nil _ _ _ _, S1.out.below⟩
  · have h1 : auR xss = autL xss := by simp [auR, ho]
    have h2 : auC xss = 0 := by simp [auC, ho]
    rw [h1, h2]
    have HO := Lib.hid ho
    clear hx ha hr ho h1 h2
    go_enter Try.func57, Try.ntmps57
    go_wp2_with fail
    refine (sIs_any _ HX.out (HA.out.keep S0.out.below) hN HR.out).mono ?_
    rintro e w1 ⟨rfl, bel⟩
    rw [HO.out]
    have S1 := Lib.hid (S0.out.go bel)
    have x1 := (S1.out.blk (i := 0) rfl).cell (i := 0) rfl
    clear bel x0
    go_wp2_with fail
    refine (sauts_any _ HO.out HX.out (HA.out.keep S1.out.below)).mono ?_
    rintro e w2 ⟨A2, m, c2, rfl, hm, own, bel⟩
    have S2 := Lib.hid (S1.out.go bel)
    have OWN := Lib.hid (ownSS_wide own S1.out.lo (Nat.le_refl _))
    have HM := Lib.hid hm
    clear bel x1 own hm
    go_wp2
    go_ret2
    have hm := HM.out
    subst hm
    exact ⟨A2, c2, rfl, OWN.out, S2.out.below⟩

end Go.Proofs.Ytmgoaabeopnopaa
