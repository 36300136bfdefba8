/- IsomorphismOf, AreIsomorphic, AutomorphismTo, AutomorphismsOf, CountAutomorphisms: impl's and the spec's. -/
import Derived.Test.YtmikoihpmhfafaaL19
import Derived.Test.YtmikoihpmhfafaaPl
import Derived.Lib.SliceRun
namespace Go.Proofs.Ytmikoihpmhfafaa
open Go.RowKit

set_option maxHeartbeats 800000 in
theorem szMl_any {A : Option Addr} {c n : Nat} {xss : List (List Int)} (left : Int) (w : World) (hl0 : 0 ≤ left) (hl1 : left ≤ 1048576) (hx : xss.length = n) (ha : RdSS w A xss) (hn : n ≤ 9223372036854775807) :
    Calls Try.prog 73 #[.agg #[.slice A n c], .int .i64 left] w fun e w' => ∃ r : Int, e = .returned (.int .i64 r) ∧ -1 ≤ r ∧ r ≤ 1048576 ∧ (0 ≤ r → (xss.length : Int) ≤ 1048576 ∧ ∀ xs ∈ xss, (xs.length : Int) ≤ 1048576) ∧ Below w.heap.size w w' := by
  have HX := Lib.hid hx
  have HA := Lib.hid ha
  clear hx ha
  go_enter Try.func73, Try.ntmps73
  go_wp2_with fail
  refine (szl_any left _ hl0 hl1 HX.out (HA.out.al _) hn).mono ?_
  rintro e w2 ⟨r, rfl, h0, h1, h2, rfl⟩
  have H2 := Lib.hid h2
  clear h2
  by_cases hneg : r < 0
  · go_wp2
    go_ret
    exact ⟨-1, rfl, by omega, by omega, by omega, below1 _ _⟩
  · go_wp2
    go_ret
    exact ⟨r, rfl, by omega, by omega, H2.out, below1 _ _⟩

set_option maxHeartbeats 3200000 in
set_option maxRecDepth 8000 in
theorem iIsomorphismOf_any {A A1 : Option Addr} {c c1 N k : Nat} {xss yss : List (List Int)} (w : World) (hx : xss.length = N) (ha : RdSS w A xss) (hN : N ≤ 1048576) (hr : ∀ xs ∈ xss, (xs.length : Int) ≤ 1048576) (hy : yss.length = k) (hb : RdSS w A1 yss) (hk : k ≤ 1048576) (hs : ∀ xs ∈ yss, (xs.length : Int) ≤ 1048576) :
    Calls Try.prog 56 #[.agg #[.slice A N c], .agg #[.slice A1 k c1]] w (RetS w (ioR xss yss) (ioC xss yss)) := by
  have HX := Lib.hid hx
  have HA := Lib.hid ha
  have HR := Lib.hid hr
  have HY := Lib.hid hy
  have HB := Lib.hid hb
  have HT := Lib.hid hs
  have st0 := ((St.start w).addBlk #[.slice A N c] 26).addBlk #[.slice A1 k c1] 26
  simp at st0
  have S0 := Lib.hid st0
  have x0 := (st0.blk (i := 0) rfl).cell (i := 0) rfl
  have y0 := (st0.blk (i := 1) rfl).cell (i := 0) rfl
  clear st0 hx ha hr hy hb hs
  cases ho : okMan xss
  · have HO := Lib.hid ho
    have h1 : ioR xss yss = [] := by simp [ioR, ho]
    have h2 : ioC xss yss = 1 := by simp [ioC, ho]
    rw [h1, h2]
    clear h1 h2
    clear ho
    go_enter Try.func56, Try.ntmps56
    go_wp2_with fail
    refine (iMan_any _ HX.out (HA.out.keep S0.out.below) hN HR.out).mono ?_
    rintro e w1 ⟨rfl, bel⟩
    rw [HO.out]
    have S1 := Lib.hid (S0.out.go bel)
    clear bel
    go_wp2
    go_ret2
    exact ⟨none, 0, rfl, World.ownsRow_nil _ _ _ _, S1.out.below⟩
  · cases hp : okMan yss
    · have HO := Lib.hid ho
      have HP := Lib.hid hp
      have h1 : ioR xss yss = [] := by simp [ioR, ho, hp]
      have h2 : ioC xss yss = 1 := by simp [ioC, ho, hp]
      rw [h1, h2]
      clear h1 h2
      clear ho hp
      go_enter Try.func56, Try.ntmps56
      go_wp2_with fail
      refine (iMan_any _ HX.out (HA.out.keep S0.out.below) hN HR.out).mono ?_
      rintro e w1 ⟨rfl, bel⟩
      rw [HO.out]
      have S1 := Lib.hid (S0.out.go bel)
      have y1 := (S1.out.blk (i := 1) rfl).cell (i := 0) rfl
      clear bel
      go_wp2_with fail
      refine (iMan_any _ HY.out (HB.out.keep S1.out.below) hk HT.out).mono ?_
      rintro e w2 ⟨rfl, bel⟩
      rw [HP.out]
      have S2 := Lib.hid (S1.out.go bel)
      clear bel
      go_wp2
      go_ret2
      exact ⟨none, 0, rfl, World.ownsRow_nil _ _ _ _, S2.out.below⟩
    · obtain ⟨F, hF⟩ : ∃ F, firO xss yss = F := ⟨_, rfl⟩
      have HO := Lib.hid ho
      have HP := Lib.hid hp
      have HF := Lib.hid hF
      obtain ⟨RR, hRR⟩ : ∃ R, F.getD [] = R := ⟨_, rfl⟩
      obtain ⟨CC, hCC⟩ : ∃ C : Int, (if F.isSome then 0 else 4) = C := ⟨_, rfl⟩
      have h1 : ioR xss yss = RR := by simp [ioR, ho, hp, hF, ← hRR]
      have h2 : ioC xss yss = CC := by simp [ioC, ho, hp, hF, ← hCC]
      have HRR := Lib.hid hRR
      have HCC := Lib.hid hCC
      clear hRR hCC
      have HLN := Lib.hid (fun L (h : firO xss yss = some L) => firO_len h)
      rw [h1, h2]
      clear h1 h2 ho hp hF
      have hq := fun (w : World) (a : Option Addr) (n c : Nat) => Lib.run_eql_slice_nil (P := Try.prog) w 31 2 a n c 0 0 Try.underlying31
      go_enter Try.func56, Try.ntmps56
      go_wp2_with fail
      refine (iMan_any _ HX.out (HA.out.keep S0.out.below) hN HR.out).mono ?_
      rintro e w1 ⟨rfl, bel⟩
      rw [HO.out]
      have S1 := Lib.hid (S0.out.go bel)
      have x1 := (S1.out.blk (i := 0) rfl).cell (i := 0) rfl
      have y1 := (S1.out.blk (i := 1) rfl).cell (i := 0) rfl
      clear bel
      go_wp2_with fail
      refine (iMan_any _ HY.out (HB.out.keep S1.out.below) hk HT.out).mono ?_
      rintro e w2 ⟨rfl, bel⟩
      rw [HP.out]
      have S2 := Lib.hid (S1.out.go bel)
      have x2 := (S2.out.blk (i := 0) rfl).cell (i := 0) rfl
      have y2 := (S2.out.blk (i := 1) rfl).cell (i := 0) rfl
      clear bel x0 y0 x1 y1
      go_wp2_with fail
      refine (ifirst_any _ HO.out HP.out HX.out HY.out (HA.out.keep S2.out.below) (HB.out.keep S2.out.below)).mono ?_
      rintro e w3 ⟨bel, ⟨hi, rfl⟩ | ⟨L, g, c3, hi, rfl, own⟩⟩
      · have S3 := Lib.hid (S2.out.go bel)
        have hFN := HF.out.symm.trans hi
        obtain rfl : RR = [] := by rw [← HRR.out, hFN]; rfl
        obtain rfl : CC = 4 := by rw [← HCC.out, hFN]; rfl
        clear bel hi hFN
        go_wp2
        go_ret2
        exact ⟨none, 0, rfl, World.ownsRow_nil _ _ _ _, S3.out.below⟩
      · have S3 := Lib.hid (S2.out.go bel)
        have hFN := HF.out.symm.trans hi
        have LEN := Lib.hid (HLN.out L hi)
        obtain rfl : RR = L := by rw [← HRR.out, hFN]; rfl
        obtain rfl : CC = 0 := by rw [← HCC.out, hFN]; rfl
        have OWN := Lib.hid (own_base own S2.out.lo)
        clear bel hi own hFN
        go_wp2
        go_ret2
        have hl := LEN.out
        have ho := OWN.out
        rw [← hl] at ho
        exact ⟨_, c3, by rw [← hl]; rfl, ho, S3.out.below⟩

set_option maxHeartbeats 3200000 in
set_option maxRecDepth 8000 in
theorem iAreIsomorphic_any {A A1 : Option Addr} {c c1 N k : Nat} {xss yss : List (List Int)} (w : World) (hx : xss.length = N) (ha : RdSS w A xss) (hN : N ≤ 1048576) (hr : ∀ xs ∈ xss, (xs.length : Int) ≤ 1048576) (hy : yss.length = k) (hb : RdSS w A1 yss) (hk : k ≤ 1048576) (hs : ∀ xs ∈ yss, (xs.length : Int) ≤ 1048576) :
    Calls Try.prog 58 #[.agg #[.slice A N c], .agg #[.slice A1 k c1]] w (fun e w' => e = .returned (.tuple #[.bool (aiB xss yss), .int .i64 (aiC xss yss)]) ∧ Below w.heap.size w w') := by
  have HX := Lib.hid hx
  have HA := Lib.hid ha
  have HR := Lib.hid hr
  have HY := Lib.hid hy
  have HB := Lib.hid hb
  have HT := Lib.hid hs
  have st0 := ((St.start w).addBlk #[.slice A N c] 26).addBlk #[.slice A1 k c1] 26
  simp at st0
  have S0 := Lib.hid st0
  have x0 := (st0.blk (i := 0) rfl).cell (i := 0) rfl
  have y0 := (st0.blk (i := 1) rfl).cell (i := 0) rfl
  clear st0 hx ha hr hy hb hs
  cases ho : okMan xss
  · have HO := Lib.hid ho
    have h1 : aiB xss yss = false := by simp [aiB, ho]
    have h2 : aiC xss yss = 1 := by simp [aiC, ho]
    rw [h1, h2]
    clear h1 h2
    clear ho
    go_enter Try.func58, Try.ntmps58
    go_wp2_with fail
    refine (iMan_any _ HX.out (HA.out.keep S0.out.below) hN HR.out).mono ?_
    rintro e w1 ⟨rfl, bel⟩
    rw [HO.out]
    have S1 := Lib.hid (S0.out.go bel)
    clear bel
    go_wp2
    go_ret2
    exact ⟨rfl, S1.out.below⟩
  · cases hp : okMan yss
    · have HO := Lib.hid ho
      have HP := Lib.hid hp
      have h1 : aiB xss yss = false := by simp [aiB, ho, hp]
      have h2 : aiC xss yss = 1 := by simp [aiC, ho, hp]
      rw [h1, h2]
      clear h1 h2
      clear ho hp
      go_enter Try.func58, Try.ntmps58
      go_wp2_with fail
      refine (iMan_any _ HX.out (HA.out.keep S0.out.below) hN HR.out).mono ?_
      rintro e w1 ⟨rfl, bel⟩
      rw [HO.out]
      have S1 := Lib.hid (S0.out.go bel)
      have y1 := (S1.out.blk (i := 1) rfl).cell (i := 0) rfl
      clear bel
      go_wp2_with fail
      refine (iMan_any _ HY.out (HB.out.keep S1.out.below) hk HT.out).mono ?_
      rintro e w2 ⟨rfl, bel⟩
      rw [HP.out]
      have S2 := Lib.hid (S1.out.go bel)
      clear bel
      go_wp2
      go_ret2
      exact ⟨rfl, S2.out.below⟩
    · obtain ⟨F, hF⟩ : ∃ F, firO xss yss = F := ⟨_, rfl⟩
      have HO := Lib.hid ho
      have HP := Lib.hid hp
      have HF := Lib.hid hF
      obtain ⟨RR, hRR⟩ : ∃ R, F.isSome = R := ⟨_, rfl⟩
      have HRR := Lib.hid hRR
      have h1 : aiB xss yss = RR := by simp [aiB, ho, hp, hF, hRR]
      clear hRR
      have h2 : aiC xss yss = 0 := by simp [aiC, ho, hp]
      have HLN := Lib.hid (fun L (h : firO xss yss = some L) => firO_len h)
      rw [h1, h2]
      clear h1 h2 ho hp hF
      go_enter Try.func58, Try.ntmps58
      go_wp2_with fail
      refine (iMan_any _ HX.out (HA.out.keep S0.out.below) hN HR.out).mono ?_
      rintro e w1 ⟨rfl, bel⟩
      rw [HO.out]
      have S1 := Lib.hid (S0.out.go bel)
      have x1 := (S1.out.blk (i := 0) rfl).cell (i := 0) rfl
      have y1 := (S1.out.blk (i := 1) rfl).cell (i := 0) rfl
      clear bel
      go_wp2_with fail
      refine (iMan_any _ HY.out (HB.out.keep S1.out.below) hk HT.out).mono ?_
      rintro e w2 ⟨rfl, bel⟩
      rw [HP.out]
      have S2 := Lib.hid (S1.out.go bel)
      have x2 := (S2.out.blk (i := 0) rfl).cell (i := 0) rfl
      have y2 := (S2.out.blk (i := 1) rfl).cell (i := 0) rfl
      clear bel x0 y0 x1 y1
      go_wp2_with fail
      refine (ifirst_any _ HO.out HP.out HX.out HY.out (HA.out.keep S2.out.below) (HB.out.keep S2.out.below)).mono ?_
      rintro e w3 ⟨bel, ⟨hi, rfl⟩ | ⟨L, g, c3, hi, rfl, own⟩⟩
      · have S3 := Lib.hid (S2.out.go bel)
        have hFN := HF.out.symm.trans hi
        obtain rfl : RR = false := by rw [← HRR.out, hFN]; rfl
        clear bel hi hFN
        go_wp2
        go_ret2
        exact ⟨rfl, S3.out.below⟩
      · have S3 := Lib.hid (S2.out.go bel)
        have hFN := HF.out.symm.trans hi
        have LEN := Lib.hid (HLN.out L hi)
        obtain rfl : RR = true := by rw [← HRR.out, hFN]; rfl
        have OWN := Lib.hid (own_base own S2.out.lo)
        clear bel hi own hFN
        go_wp2
        go_ret2
        exact ⟨rfl, S3.out.below⟩

set_option maxHeartbeats 3200000 in
set_option maxRecDepth 8000 in
theorem sIsomorphismOf_any {A A1 : Option Addr} {c c1 N k : Nat} {xss yss : List (List Int)} (w : World) (hx : xss.length = N) (ha : RdSS w A xss) (hN : N ≤ 1048576) (hr : ∀ xs ∈ xss, (xs.length : Int) ≤ 1048576) (hy : yss.length = k) (hb : RdSS w A1 yss) (hk : k ≤ 1048576) (hs : ∀ xs ∈ yss, (xs.length : Int) ≤ 1048576) :
    Calls Try.prog 57 #[.agg #[.slice A N c], .agg #[.slice A1 k c1]] w (RetS w (ioR xss yss) (ioC xss yss)) := by
  have HX := Lib.hid hx
  have HA := Lib.hid ha
  have HR := Lib.hid hr
  have HY := Lib.hid hy
  have HB := Lib.hid hb
  have HT := Lib.hid hs
  have st0 := ((St.start w).addBlk #[.slice A N c] 26).addBlk #[.slice A1 k c1] 26
  simp at st0
  have S0 := Lib.hid st0
  have x0 := (st0.blk (i := 0) rfl).cell (i := 0) rfl
  have y0 := (st0.blk (i := 1) rfl).cell (i := 0) rfl
  clear st0 hx ha hr hy hb hs
  cases ho : okMan xss
  · have HO := Lib.hid ho
    have h1 : ioR xss yss = [] := by simp [ioR, ho]
    have h2 : ioC xss yss = 1 := by simp [ioC, ho]
    rw [h1, h2]
    clear h1 h2
    clear ho
    go_enter Try.func57, Try.ntmps57
    go_wp2_with fail
    refine (sIs_any _ HX.out (HA.out.keep S0.out.below) hN HR.out).mono ?_
    rintro e w1 ⟨rfl, bel⟩
    rw [HO.out]
    have S1 := Lib.hid (S0.out.go bel)
    clear bel
    go_wp2
    go_ret2
    exact ⟨none, 0, rfl, World.ownsRow_nil _ _ _ _, S1.out.below⟩
  · cases hp : okMan yss
    · have HO := Lib.hid ho
      have HP := Lib.hid hp
      have h1 : ioR xss yss = [] := by simp [ioR, ho, hp]
      have h2 : ioC xss yss = 1 := by simp [ioC, ho, hp]
      rw [h1, h2]
      clear h1 h2
      clear ho hp
      go_enter Try.func57, Try.ntmps57
      go_wp2_with fail
      refine (sIs_any _ HX.out (HA.out.keep S0.out.below) hN HR.out).mono ?_
      rintro e w1 ⟨rfl, bel⟩
      rw [HO.out]
      have S1 := Lib.hid (S0.out.go bel)
      have y1 := (S1.out.blk (i := 1) rfl).cell (i := 0) rfl
      clear bel
      go_wp2_with fail
      refine (sIs_any _ HY.out (HB.out.keep S1.out.below) hk HT.out).mono ?_
      rintro e w2 ⟨rfl, bel⟩
      rw [HP.out]
      have S2 := Lib.hid (S1.out.go bel)
      clear bel
      go_wp2
      go_ret2
      exact ⟨none, 0, rfl, World.ownsRow_nil _ _ _ _, S2.out.below⟩
    · obtain ⟨F, hF⟩ : ∃ F, firO xss yss = F := ⟨_, rfl⟩
      have HO := Lib.hid ho
      have HP := Lib.hid hp
      have HF := Lib.hid hF
      obtain ⟨RR, hRR⟩ : ∃ R, F.getD [] = R := ⟨_, rfl⟩
      obtain ⟨CC, hCC⟩ : ∃ C : Int, (if F.isSome then 0 else 4) = C := ⟨_, rfl⟩
      have h1 : ioR xss yss = RR := by simp [ioR, ho, hp, hF, ← hRR]
      have h2 : ioC xss yss = CC := by simp [ioC, ho, hp, hF, ← hCC]
      have HRR := Lib.hid hRR
      have HCC := Lib.hid hCC
      clear hRR hCC
      have HLN := Lib.hid (fun L (h : firO xss yss = some L) => firO_len h)
      rw [h1, h2]
      clear h1 h2 ho hp hF
      go_enter Try.func57, Try.ntmps57
      go_wp2_with fail
      refine (sIs_any _ HX.out (HA.out.keep S0.out.below) hN HR.out).mono ?_
      rintro e w1 ⟨rfl, bel⟩
      rw [HO.out]
      have S1 := Lib.hid (S0.out.go bel)
      have x1 := (S1.out.blk (i := 0) rfl).cell (i := 0) rfl
      have y1 := (S1.out.blk (i := 1) rfl).cell (i := 0) rfl
      clear bel
      go_wp2_with fail
      refine (sIs_any _ HY.out (HB.out.keep S1.out.below) hk HT.out).mono ?_
      rintro e w2 ⟨rfl, bel⟩
      rw [HP.out]
      have S2 := Lib.hid (S1.out.go bel)
      have x2 := (S2.out.blk (i := 0) rfl).cell (i := 0) rfl
      have y2 := (S2.out.blk (i := 1) rfl).cell (i := 0) rfl
      clear bel x0 y0 x1 y1
      go_wp2_with fail
      refine (sfirst_any _ HO.out HP.out HX.out HY.out (HA.out.keep S2.out.below) (HB.out.keep S2.out.below)).mono ?_
      rintro e w3 ⟨bel, ⟨hi, rfl⟩ | ⟨L, g, c3, hi, rfl, own⟩⟩
      · have S3 := Lib.hid (S2.out.go bel)
        have hFN := HF.out.symm.trans hi
        obtain rfl : RR = [] := by rw [← HRR.out, hFN]; rfl
        obtain rfl : CC = 4 := by rw [← HCC.out, hFN]; rfl
        clear bel hi hFN
        go_wp2
        go_ret2
        exact ⟨none, 0, rfl, World.ownsRow_nil _ _ _ _, S3.out.below⟩
      · have S3 := Lib.hid (S2.out.go bel)
        have hFN := HF.out.symm.trans hi
        have LEN := Lib.hid (HLN.out L hi)
        obtain rfl : RR = L := by rw [← HRR.out, hFN]; rfl
        obtain rfl : CC = 0 := by rw [← HCC.out, hFN]; rfl
        have OWN := Lib.hid (own_base own S2.out.lo)
        clear bel hi own hFN
        go_wp2
        go_ret2
        have hl := LEN.out
        have ho := OWN.out
        rw [← hl] at ho
        exact ⟨_, c3, by rw [← hl]; rfl, ho, S3.out.below⟩

set_option maxHeartbeats 3200000 in
set_option maxRecDepth 8000 in
theorem sAreIsomorphic_any {A A1 : Option Addr} {c c1 N k : Nat} {xss yss : List (List Int)} (w : World) (hx : xss.length = N) (ha : RdSS w A xss) (hN : N ≤ 1048576) (hr : ∀ xs ∈ xss, (xs.length : Int) ≤ 1048576) (hy : yss.length = k) (hb : RdSS w A1 yss) (hk : k ≤ 1048576) (hs : ∀ xs ∈ yss, (xs.length : Int) ≤ 1048576) :
    Calls Try.prog 80 #[.agg #[.slice A N c], .agg #[.slice A1 k c1]] w (fun e w' => e = .returned (.tuple #[.bool (aiB xss yss), .int .i64 (aiC xss yss)]) ∧ Below w.heap.size w w') := by
  have HX := Lib.hid hx
  have HA := Lib.hid ha
  have HR := Lib.hid hr
  have HY := Lib.hid hy
  have HB := Lib.hid hb
  have HT := Lib.hid hs
  have st0 := ((St.start w).addBlk #[.slice A N c] 26).addBlk #[.slice A1 k c1] 26
  simp at st0
  have S0 := Lib.hid st0
  have x0 := (st0.blk (i := 0) rfl).cell (i := 0) rfl
  have y0 := (st0.blk (i := 1) rfl).cell (i := 0) rfl
  clear st0 hx ha hr hy hb hs
  cases ho : okMan xss
  · have HO := Lib.hid ho
    have h1 : aiB xss yss = false := by simp [aiB, ho]
    have h2 : aiC xss yss = 1 := by simp [aiC, ho]
    rw [h1, h2]
    clear h1 h2
    clear ho
    go_enter Try.func80, Try.ntmps80
    go_wp2_with fail
    refine (sIs_any _ HX.out (HA.out.keep S0.out.below) hN HR.out).mono ?_
    rintro e w1 ⟨rfl, bel⟩
    rw [HO.out]
    have S1 := Lib.hid (S0.out.go bel)
    clear bel
    go_wp2
    go_ret2
    exact ⟨rfl, S1.out.below⟩
  · cases hp : okMan yss
    · have HO := Lib.hid ho
      have HP := Lib.hid hp
      have h1 : aiB xss yss = false := by simp [aiB, ho, hp]
      have h2 : aiC xss yss = 1 := by simp [aiC, ho, hp]
      rw [h1, h2]
      clear h1 h2
      clear ho hp
      go_enter Try.func80, Try.ntmps80
      go_wp2_with fail
      refine (sIs_any _ HX.out (HA.out.keep S0.out.below) hN HR.out).mono ?_
      rintro e w1 ⟨rfl, bel⟩
      rw [HO.out]
      have S1 := Lib.hid (S0.out.go bel)
      have y1 := (S1.out.blk (i := 1) rfl).cell (i := 0) rfl
      clear bel
      go_wp2_with fail
      refine (sIs_any _ HY.out (HB.out.keep S1.out.below) hk HT.out).mono ?_
      rintro e w2 ⟨rfl, bel⟩
      rw [HP.out]
      have S2 := Lib.hid (S1.out.go bel)
      clear bel
      go_wp2
      go_ret2
      exact ⟨rfl, S2.out.below⟩
    · obtain ⟨F, hF⟩ : ∃ F, firO xss yss = F := ⟨_, rfl⟩
      have HO := Lib.hid ho
      have HP := Lib.hid hp
      have HF := Lib.hid hF
      obtain ⟨RR, hRR⟩ : ∃ R, F.isSome = R := ⟨_, rfl⟩
      have HRR := Lib.hid hRR
      have h1 : aiB xss yss = RR := by simp [aiB, ho, hp, hF, hRR]
      clear hRR
      have h2 : aiC xss yss = 0 := by simp [aiC, ho, hp]
      have HLN := Lib.hid (fun L (h : firO xss yss = some L) => firO_len h)
      rw [h1, h2]
      clear h1 h2 ho hp hF
      go_enter Try.func80, Try.ntmps80
      go_wp2_with fail
      refine (sIs_any _ HX.out (HA.out.keep S0.out.below) hN HR.out).mono ?_
      rintro e w1 ⟨rfl, bel⟩
      rw [HO.out]
      have S1 := Lib.hid (S0.out.go bel)
      have x1 := (S1.out.blk (i := 0) rfl).cell (i := 0) rfl
      have y1 := (S1.out.blk (i := 1) rfl).cell (i := 0) rfl
      clear bel
      go_wp2_with fail
      refine (sIs_any _ HY.out (HB.out.keep S1.out.below) hk HT.out).mono ?_
      rintro e w2 ⟨rfl, bel⟩
      rw [HP.out]
      have S2 := Lib.hid (S1.out.go bel)
      have x2 := (S2.out.blk (i := 0) rfl).cell (i := 0) rfl
      have y2 := (S2.out.blk (i := 1) rfl).cell (i := 0) rfl
      clear bel x0 y0 x1 y1
      go_wp2_with fail
      refine (sfirst_any _ HO.out HP.out HX.out HY.out (HA.out.keep S2.out.below) (HB.out.keep S2.out.below)).mono ?_
      rintro e w3 ⟨bel, ⟨hi, rfl⟩ | ⟨L, g, c3, hi, rfl, own⟩⟩
      · have S3 := Lib.hid (S2.out.go bel)
        have hFN := HF.out.symm.trans hi
        obtain rfl : RR = false := by rw [← HRR.out, hFN]; rfl
        clear bel hi hFN
        go_wp2
        go_ret2
        exact ⟨rfl, S3.out.below⟩
      · have S3 := Lib.hid (S2.out.go bel)
        have hFN := HF.out.symm.trans hi
        have LEN := Lib.hid (HLN.out L hi)
        obtain rfl : RR = true := by rw [← HRR.out, hFN]; rfl
        have OWN := Lib.hid (own_base own S2.out.lo)
        clear bel hi own hFN
        go_wp2
        go_ret2
        exact ⟨rfl, S3.out.below⟩

set_option maxHeartbeats 3200000 in
set_option maxRecDepth 8000 in
theorem iAutomorphismTo_any {A : Option Addr} {c N : Nat} {xss : List (List Int)} (k1 : Int) (w : World) (hx : xss.length = N) (ha : RdSS w A xss) (hN : N ≤ 1048576) (hr : ∀ xs ∈ xss, (xs.length : Int) ≤ 1048576) :
    Calls Try.prog 54 #[.agg #[.slice A N c], .int .i64 k1] w (RetS w (atR xss k1) (atC xss k1)) := by
  have HX := Lib.hid hx
  have HA := Lib.hid ha
  have HR := Lib.hid hr
  have st0 := (St.start w).addBlk #[.slice A N c] 26
  have S0 := Lib.hid st0
  have x0 := (st0.blk (i := 0) rfl).cell (i := 0) rfl
  clear st0
  cases ho : okMan xss
  · have h1 : atR xss k1 = [] := by simp [atR, ho]
    have h2 : atC xss k1 = 1 := by simp [atC, ho]
    rw [h1, h2]
    have HO := Lib.hid ho
    clear hx ha hr ho h1 h2
    go_enter Try.func54, Try.ntmps54
    go_wp2_with fail
    refine (iMan_any _ HX.out (HA.out.keep S0.out.below) hN HR.out).mono ?_
    rintro e w1 ⟨rfl, bel⟩
    rw [HO.out]
    have S1 := Lib.hid (S0.out.go bel)
    have x1 := (S1.out.blk (i := 0) rfl).cell (i := 0) rfl
    clear bel x0
    clear x1
    go_wp2
    go_ret2
    exact ⟨none, 0, rfl, World.ownsRow_nil _ _ _ _, S1.out.below⟩
  · have hman := okMan_iff.1 ho
    have hsys := hman.sys
    have hn2 := hman.f2
    have hn4 := hman.f4
    have hpos := hman.pos hx
    have hall := hman.all (q := 0) (by omega)
    obtain ⟨b, o, A0, c0, rfl, hc0⟩ := man_row0 hman ha
    obtain ⟨n, hn⟩ : ∃ n, flN xss = n := ⟨_, rfl⟩
    rw [hn] at hc0 hsys hn2 hn4 hall
    have HC0 := Lib.hid hc0
    have HS := Lib.hid hsys
    have HALL := Lib.hid hall
    cases hf : flagB n k1
    · have h1 : atR xss k1 = [] := by simp [atR, ho, hn, hf]
      have h2 : atC xss k1 = 2 := by simp [atC, ho, hn, hf]
      rw [h1, h2]
      have HO := Lib.hid ho
      have HF := Lib.hid hf
      clear hx ha hr ho h1 h2 hf hman hsys hall hc0 hn
      go_enter Try.func54, Try.ntmps54
      go_wp2_with fail
      refine (iMan_any _ HX.out (HA.out.keep S0.out.below) hN HR.out).mono ?_
      rintro e w1 ⟨rfl, bel⟩
      rw [HO.out]
      have S1 := Lib.hid (S0.out.go bel)
      have x1 := (S1.out.blk (i := 0) rfl).cell (i := 0) rfl
      clear bel x0
      go_wp2_with fail
      refine (iFlag_bel _ _ hpos (cell_be HC0.out S1.out.below) (by omega) HF.out).mono ?_
      rintro e w2 ⟨rfl, bel⟩
      have S2 := Lib.hid (S1.out.go bel)
      clear bel x1
      go_wp2
      go_ret2
      exact ⟨none, 0, rfl, World.ownsRow_nil _ _ _ _, S2.out.below⟩
    · obtain ⟨p, rfl, hp⟩ := flagB_true hf
      obtain ⟨F, hF⟩ : ∃ F, isoL xss xss n p = F := ⟨_, rfl⟩
      obtain ⟨RR, hRR⟩ : ∃ R, F.getD [] = R := ⟨_, rfl⟩
      obtain ⟨CC, hCC⟩ : ∃ C : Int, (if F.isSome then 0 else 4) = C := ⟨_, rfl⟩
      have h1 : atR xss (p : Int) = RR := by simp [atR, ho, hn, hf, hF, ← hRR]
      have h2 : atC xss (p : Int) = CC := by simp [atC, ho, hn, hf, hF, ← hCC]
      have HRR := Lib.hid hRR
      have HCC := Lib.hid hCC
      clear hRR hCC
      rw [h1, h2]
      have HO := Lib.hid ho
      have HF := Lib.hid hf
      have HFF := Lib.hid hF
      have HLN := Lib.hid (fun L (h : isoL xss xss n p = some L) => isoL_len h)
      clear hx ha hr ho h1 h2 hf hman hsys hall hc0 hn hF
      have hq := fun (w : World) (a : Option Addr) (n c : Nat) => Lib.run_eql_slice_nil (P := Try.prog) w 31 2 a n c 0 0 Try.underlying31
      go_enter Try.func54, Try.ntmps54
      go_wp2_with fail
      refine (iMan_any _ HX.out (HA.out.keep S0.out.below) hN HR.out).mono ?_
      rintro e w1 ⟨rfl, bel⟩
      rw [HO.out]
      have S1 := Lib.hid (S0.out.go bel)
      have x1 := (S1.out.blk (i := 0) rfl).cell (i := 0) rfl
      clear bel x0
      go_wp2_with fail
      refine (iFlag_bel _ _ hpos (cell_be HC0.out S1.out.below) (by omega) HF.out).mono ?_
      rintro e w2 ⟨rfl, bel⟩
      have S2 := Lib.hid (S1.out.go bel)
      have x2 := (S2.out.blk (i := 0) rfl).cell (i := 0) rfl
      clear bel x1
      go_wp2_with fail
      refine (iisoTo_any (q := p) _ HX.out (HA.out.keep S2.out.below) HX.out (HA.out.keep S2.out.below) hN HS.out HS.out (cell_be HC0.out S2.out.below) hpos hp HALL.out).mono ?_
      rintro e w3 ⟨bel, ⟨hi, rfl⟩ | ⟨L, g, c3, hi, rfl, own⟩⟩
      · have S3 := Lib.hid (S2.out.go bel)
        have hFN := HFF.out.symm.trans hi
        obtain rfl : RR = [] := by rw [← HRR.out, hFN]; rfl
        obtain rfl : CC = 4 := by rw [← HCC.out, hFN]; rfl
        clear bel hi hFN
        go_wp2
        go_ret2
        exact ⟨none, 0, rfl, World.ownsRow_nil _ _ _ _, S3.out.below⟩
      · have S3 := Lib.hid (S2.out.go bel)
        have hFN := HFF.out.symm.trans hi
        have LEN := Lib.hid (HLN.out L hi)
        obtain rfl : RR = L := by rw [← HRR.out, hFN]; rfl
        obtain rfl : CC = 0 := by rw [← HCC.out, hFN]; rfl
        have OWN := Lib.hid (own_base own S2.out.lo)
        clear bel hi own hFN
        go_wp2
        go_ret2
        have hl := LEN.out
        have ho := OWN.out
        rw [← hl] at ho
        exact ⟨_, c3, by rw [← hl]; rfl, ho, S3.out.below⟩

set_option maxHeartbeats 3200000 in
set_option maxRecDepth 8000 in
theorem iAutomorphismsOf_any {A : Option Addr} {c N : Nat} {xss : List (List Int)} (w : World) (hx : xss.length = N) (ha : RdSS w A xss) (hN : N ≤ 1048576) (hr : ∀ xs ∈ xss, (xs.length : Int) ≤ 1048576) :
    Calls Try.prog 43 #[.agg #[.slice A N c]] w (fun e w' => ∃ A' c', e = .returned (.tuple #[.slice A' (auR xss).length c', .int .i64 (auC xss)]) ∧ OwnSS w' w.heap.size w'.heap.size 31 A' (auR xss).length c' (auR xss) ∧ Below w.heap.size w w') := by
  have HX := Lib.hid hx
  have HA := Lib.hid ha
  have HR := Lib.hid hr
  have st0 := (St.start w).addBlk #[.slice A N c] 26
  have S0 := Lib.hid st0
  have x0 := (st0.blk (i := 0) rfl).cell (i := 0) rfl
  clear st0
  cases ho : okMan xss
  · have h1 : auR xss = [] := by simp [auR, ho]
    have h2 : auC xss = 1 := by simp [auC, ho]
    rw [h1, h2]
    have HO := Lib.hid ho
    clear hx ha hr ho h1 h2
    go_enter Try.func43, Try.ntmps43
    go_wp2_with fail
    refine (iMan_any _ HX.out (HA.out.keep S0.out.below) hN HR.out).mono ?_
    rintro e w1 ⟨rfl, bel⟩
    rw [HO.out]
    have S1 := Lib.hid (S0.out.go bel)
    have x1 := (S1.out.blk (i := 0) rfl).cell (i := 0) rfl
    clear bel x0
    clear x1
    go_wp2
    go_ret2
    exact ⟨none, 0, rfl, ownSS_nil _ _ _ _, S1.out.below⟩
  · have h1 : auR xss = autL xss := by simp [auR, ho]
    have h2 : auC xss = 0 := by simp [auC, ho]
    rw [h1, h2]
    have HO := Lib.hid ho
    clear hx ha hr ho h1 h2
    go_enter Try.func43, Try.ntmps43
    go_wp2_with fail
    refine (iMan_any _ HX.out (HA.out.keep S0.out.below) hN HR.out).mono ?_
    rintro e w1 ⟨rfl, bel⟩
    rw [HO.out]
    have S1 := Lib.hid (S0.out.go bel)
    have x1 := (S1.out.blk (i := 0) rfl).cell (i := 0) rfl
    clear bel x0
    go_wp2_with fail
    refine (iauts_any _ HO.out HX.out (HA.out.keep S1.out.below)).mono ?_
    rintro e w2 ⟨A2, m, c2, rfl, hm, own, bel⟩
    have S2 := Lib.hid (S1.out.go bel)
    have OWN := Lib.hid (ownSS_wide own S1.out.lo (Nat.le_refl _))
    have HM := Lib.hid hm
    clear bel x1 own hm
    go_wp2
    go_ret2
    have hm := HM.out
    subst hm
    exact ⟨A2, c2, rfl, OWN.out, S2.out.below⟩

set_option maxHeartbeats 3200000 in
set_option maxRecDepth 8000 in
theorem iCountAutomorphisms_any {A : Option Addr} {c N : Nat} {xss : List (List Int)} (w : World) (hx : xss.length = N) (ha : RdSS w A xss) (hN : N ≤ 1048576) (hr : ∀ xs ∈ xss, (xs.length : Int) ≤ 1048576) :
    Calls Try.prog 46 #[.agg #[.slice A N c]] w (fun e w' => e = .returned (.tuple #[.int .i64 (((auR xss).length : Int)), .int .i64 (auC xss)]) ∧ Below w.heap.size w w') := by
  have HX := Lib.hid hx
  have HA := Lib.hid ha
  have HR := Lib.hid hr
  have st0 := (St.start w).addBlk #[.slice A N c] 26
  have S0 := Lib.hid st0
  have x0 := (st0.blk (i := 0) rfl).cell (i := 0) rfl
  clear st0
  cases ho : okMan xss
  · have h1 : auR xss = [] := by simp [auR, ho]
    have h2 : auC xss = 1 := by simp [auC, ho]
    rw [h1, h2]
    have HO := Lib.hid ho
    clear hx ha hr ho h1 h2
    go_enter Try.func46, Try.ntmps46
    go_wp2_with fail
    refine (iMan_any _ HX.out (HA.out.keep S0.out.below) hN HR.out).mono ?_
    rintro e w1 ⟨rfl, bel⟩
    rw [HO.out]
    have S1 := Lib.hid (S0.out.go bel)
    have x1 := (S1.out.blk (i := 0) rfl).cell (i := 0) rfl
    clear bel x0
    clear x1
    go_wp2
    go_ret2
    exact ⟨rfl, S1.out.below⟩
  · have h1 : auR xss = autL xss := by simp [auR, ho]
    have h2 : auC xss = 0 := by simp [auC, ho]
    rw [h1, h2]
    have HO := Lib.hid ho
    clear hx ha hr ho h1 h2
    go_enter Try.func46, Try.ntmps46
    go_wp2_with fail
    refine (iMan_any _ HX.out (HA.out.keep S0.out.below) hN HR.out).mono ?_
    rintro e w1 ⟨rfl, bel⟩
    rw [HO.out]
    have S1 := Lib.hid (S0.out.go bel)
    have x1 := (S1.out.blk (i := 0) rfl).cell (i := 0) rfl
    clear bel x0
    go_wp2_with fail
    refine (iauts_any _ HO.out HX.out (HA.out.keep S1.out.below)).mono ?_
    rintro e w2 ⟨A2, m, c2, rfl, hm, own, bel⟩
    have S2 := Lib.hid (S1.out.go bel)
    have OWN := Lib.hid (ownSS_wide own S1.out.lo (Nat.le_refl _))
    have HM := Lib.hid hm
    clear bel x1 own hm
    go_wp2
    go_ret2
    exact ⟨by rw [HM.out]; rfl, S2.out.below⟩

set_option maxHeartbeats 3200000 in
set_option maxRecDepth 8000 in
theorem sAutomorphismTo_any {A : Option Addr} {c N : Nat} {xss : List (List Int)} (k1 : Int) (w : World) (hx : xss.length = N) (ha : RdSS w A xss) (hN : N ≤ 1048576) (hr : ∀ xs ∈ xss, (xs.length : Int) ≤ 1048576) :
    Calls Try.prog 81 #[.agg #[.slice A N c], .int .i64 k1] w (RetS w (atR xss k1) (atC xss k1)) := by
  have HX := Lib.hid hx
  have HA := Lib.hid ha
  have HR := Lib.hid hr
  have st0 := (St.start w).addBlk #[.slice A N c] 26
  have S0 := Lib.hid st0
  have x0 := (st0.blk (i := 0) rfl).cell (i := 0) rfl
  clear st0
  cases ho : okMan xss
  · have h1 : atR xss k1 = [] := by simp [atR, ho]
    have h2 : atC xss k1 = 1 := by simp [atC, ho]
    rw [h1, h2]
    have HO := Lib.hid ho
    clear hx ha hr ho h1 h2
    go_enter Try.func81, Try.ntmps81
    go_wp2_with fail
    refine (sIs_any _ HX.out (HA.out.keep S0.out.below) hN HR.out).mono ?_
    rintro e w1 ⟨rfl, bel⟩
    rw [HO.out]
    have S1 := Lib.hid (S0.out.go bel)
    have x1 := (S1.out.blk (i := 0) rfl).cell (i := 0) rfl
    clear bel x0
    clear x1
    go_wp2
    go_ret2
    exact ⟨none, 0, rfl, World.ownsRow_nil _ _ _ _, S1.out.below⟩
  · have hman := okMan_iff.1 ho
    have hsys := hman.sys
    have hn2 := hman.f2
    have hn4 := hman.f4
    have hpos := hman.pos hx
    have hall := hman.all (q := 0) (by omega)
    obtain ⟨b, o, A0, c0, rfl, hc0⟩ := man_row0 hman ha
    obtain ⟨n, hn⟩ : ∃ n, flN xss = n := ⟨_, rfl⟩
    rw [hn] at hc0 hsys hn2 hn4 hall
    have HC0 := Lib.hid hc0
    have HS := Lib.hid hsys
    have HALL := Lib.hid hall
    cases hf : flagB n k1
    · have h1 : atR xss k1 = [] := by simp [atR, ho, hn, hf]
      have h2 : atC xss k1 = 2 := by simp [atC, ho, hn, hf]
      rw [h1, h2]
      have HO := Lib.hid ho
      have HF := Lib.hid hf
      clear hx ha hr ho h1 h2 hf hman hsys hall hc0 hn
      go_enter Try.func81, Try.ntmps81
      go_wp2_with fail
      refine (sIs_any _ HX.out (HA.out.keep S0.out.below) hN HR.out).mono ?_
      rintro e w1 ⟨rfl, bel⟩
      rw [HO.out]
      have S1 := Lib.hid (S0.out.go bel)
      have x1 := (S1.out.blk (i := 0) rfl).cell (i := 0) rfl
      clear bel x0
      go_wp2_with fail
      refine (sFlag_bel _ _ hpos (cell_be HC0.out S1.out.below) (by omega) HF.out).mono ?_
      rintro e w2 ⟨rfl, bel⟩
      have S2 := Lib.hid (S1.out.go bel)
      clear bel x1
      go_wp2
      go_ret2
      exact ⟨none, 0, rfl, World.ownsRow_nil _ _ _ _, S2.out.below⟩
    · obtain ⟨p, rfl, hp⟩ := flagB_true hf
      obtain ⟨F, hF⟩ : ∃ F, isoL xss xss n p = F := ⟨_, rfl⟩
      obtain ⟨RR, hRR⟩ : ∃ R, F.getD [] = R := ⟨_, rfl⟩
      obtain ⟨CC, hCC⟩ : ∃ C : Int, (if F.isSome then 0 else 4) = C := ⟨_, rfl⟩
      have h1 : atR xss (p : Int) = RR := by simp [atR, ho, hn, hf, hF, ← hRR]
      have h2 : atC xss (p : Int) = CC := by simp [atC, ho, hn, hf, hF, ← hCC]
      have HRR := Lib.hid hRR
      have HCC := Lib.hid hCC
      clear hRR hCC
      rw [h1, h2]
      have HO := Lib.hid ho
      have HF := Lib.hid hf
      have HFF := Lib.hid hF
      have HLN := Lib.hid (fun L (h : isoL xss xss n p = some L) => isoL_len h)
      clear hx ha hr ho h1 h2 hf hman hsys hall hc0 hn hF
      go_enter Try.func81, Try.ntmps81
      go_wp2_with fail
      refine (sIs_any _ HX.out (HA.out.keep S0.out.below) hN HR.out).mono ?_
      rintro e w1 ⟨rfl, bel⟩
      rw [HO.out]
      have S1 := Lib.hid (S0.out.go bel)
      have x1 := (S1.out.blk (i := 0) rfl).cell (i := 0) rfl
      clear bel x0
      go_wp2_with fail
      refine (sFlag_bel _ _ hpos (cell_be HC0.out S1.out.below) (by omega) HF.out).mono ?_
      rintro e w2 ⟨rfl, bel⟩
      have S2 := Lib.hid (S1.out.go bel)
      have x2 := (S2.out.blk (i := 0) rfl).cell (i := 0) rfl
      clear bel x1
      go_wp2_with fail
      refine (siso_any (q := p) _ HX.out (HA.out.keep S2.out.below) HX.out (HA.out.keep S2.out.below) hN HS.out HS.out (cell_be HC0.out S2.out.below) hpos hp HALL.out).mono ?_
      rintro e w3 ⟨bel, ⟨hi, rfl⟩ | ⟨L, g, c3, hi, rfl, own⟩⟩
      · have S3 := Lib.hid (S2.out.go bel)
        have hFN := HFF.out.symm.trans hi
        obtain rfl : RR = [] := by rw [← HRR.out, hFN]; rfl
        obtain rfl : CC = 4 := by rw [← HCC.out, hFN]; rfl
        clear bel hi hFN
        go_wp2
        go_ret2
        exact ⟨none, 0, rfl, World.ownsRow_nil _ _ _ _, S3.out.below⟩
      · have S3 := Lib.hid (S2.out.go bel)
        have hFN := HFF.out.symm.trans hi
        have LEN := Lib.hid (HLN.out L hi)
        obtain rfl : RR = L := by rw [← HRR.out, hFN]; rfl
        obtain rfl : CC = 0 := by rw [← HCC.out, hFN]; rfl
        have OWN := Lib.hid (own_base own S2.out.lo)
        clear bel hi own hFN
        go_wp2
        go_ret2
        have hl := LEN.out
        have ho := OWN.out
        rw [← hl] at ho
        exact ⟨_, c3, by rw [← hl]; rfl, ho, S3.out.below⟩

set_option maxHeartbeats 3200000 in
set_option maxRecDepth 8000 in
theorem sAutomorphismsOf_any {A : Option Addr} {c N : Nat} {xss : List (List Int)} (w : World) (hx : xss.length = N) (ha : RdSS w A xss) (hN : N ≤ 1048576) (hr : ∀ xs ∈ xss, (xs.length : Int) ≤ 1048576) :
    Calls Try.prog 44 #[.agg #[.slice A N c]] w (fun e w' => ∃ A' c', e = .returned (.tuple #[.slice A' (auR xss).length c', .int .i64 (auC xss)]) ∧ OwnSS w' w.heap.size w'.heap.size 31 A' (auR xss).length c' (auR xss) ∧ Below w.heap.size w w') := by
  have HX := Lib.hid hx
  have HA := Lib.hid ha
  have HR := Lib.hid hr
  have st0 := (St.start w).addBlk #[.slice A N c] 26
  have S0 := Lib.hid st0
  have x0 := (st0.blk (i := 0) rfl).cell (i := 0) rfl
  clear st0
  cases ho : okMan xss
  · have h1 : auR xss = [] := by simp [auR, ho]
    have h2 : auC xss = 1 := by simp [auC, ho]
    rw [h1, h2]
    have HO := Lib.hid ho
    clear hx ha hr ho h1 h2
    go_enter Try.func44, Try.ntmps44
    go_wp2_with fail
    refine (sIs_any _ HX.out (HA.out.keep S0.out.below) hN HR.out).mono ?_
    rintro e w1 ⟨rfl, bel⟩
    rw [HO.out]
    have S1 := Lib.hid (S0.out.go bel)
    have x1 := (S1.out.blk (i := 0) rfl).cell (i := 0) rfl
    clear bel x0
    clear x1
    go_wp2
    go_ret2
    exact ⟨none, 0, rfl, ownSS_nil _ _ _ _, S1.out.below⟩
  · have h1 : auR xss = autL xss := by simp [auR, ho]
    have h2 : auC xss = 0 := by simp [auC, ho]
    rw [h1, h2]
    have HO := Lib.hid ho
    clear hx ha hr ho h1 h2
    go_enter Try.func44, Try.ntmps44
    go_wp2_with fail
    refine (sIs_any _ HX.out (HA.out.keep S0.out.below) hN HR.out).mono ?_
    rintro e w1 ⟨rfl, bel⟩
    rw [HO.out]
    have S1 := Lib.hid (S0.out.go bel)
    have x1 := (S1.out.blk (i := 0) rfl).cell (i := 0) rfl
    clear bel x0
    go_wp2_with fail
    refine (sauts_any _ HO.out HX.out (HA.out.keep S1.out.below)).mono ?_
    rintro e w2 ⟨A2, m, c2, rfl, hm, own, bel⟩
    have S2 := Lib.hid (S1.out.go bel)
    have OWN := Lib.hid (ownSS_wide own S1.out.lo (Nat.le_refl _))
    have HM := Lib.hid hm
    clear bel x1 own hm
    go_wp2
    go_ret2
    have hm := HM.out
    subst hm
    exact ⟨A2, c2, rfl, OWN.out, S2.out.below⟩

set_option maxHeartbeats 3200000 in
set_option maxRecDepth 8000 in
theorem sCountAutomorphisms_any {A : Option Addr} {c N : Nat} {xss : List (List Int)} (w : World) (hx : xss.length = N) (ha : RdSS w A xss) (hN : N ≤ 1048576) (hr : ∀ xs ∈ xss, (xs.length : Int) ≤ 1048576) :
    Calls Try.prog 85 #[.agg #[.slice A N c]] w (fun e w' => e = .returned (.tuple #[.int .i64 (((auR xss).length : Int)), .int .i64 (auC xss)]) ∧ Below w.heap.size w w') := by
  have HX := Lib.hid hx
  have HA := Lib.hid ha
  have HR := Lib.hid hr
  have st0 := (St.start w).addBlk #[.slice A N c] 26
  have S0 := Lib.hid st0
  have x0 := (st0.blk (i := 0) rfl).cell (i := 0) rfl
  clear st0
  cases ho : okMan xss
  · have h1 : auR xss = [] := by simp [auR, ho]
    have h2 : auC xss = 1 := by simp [auC, ho]
    rw [h1, h2]
    have HO := Lib.hid ho
    clear hx ha hr ho h1 h2
    go_enter Try.func85, Try.ntmps85
    go_wp2_with fail
    refine (sIs_any _ HX.out (HA.out.keep S0.out.below) hN HR.out).mono ?_
    rintro e w1 ⟨rfl, bel⟩
    rw [HO.out]
    have S1 := Lib.hid (S0.out.go bel)
    have x1 := (S1.out.blk (i := 0) rfl).cell (i := 0) rfl
    clear bel x0
    clear x1
    go_wp2
    go_ret2
    exact ⟨rfl, S1.out.below⟩
  · have h1 : auR xss = autL xss := by simp [auR, ho]
    have h2 : auC xss = 0 := by simp [auC, ho]
    rw [h1, h2]
    have HO := Lib.hid ho
    clear hx ha hr ho h1 h2
    go_enter Try.func85, Try.ntmps85
    go_wp2_with fail
    refine (sIs_any _ HX.out (HA.out.keep S0.out.below) hN HR.out).mono ?_
    rintro e w1 ⟨rfl, bel⟩
    rw [HO.out]
    have S1 := Lib.hid (S0.out.go bel)
    have x1 := (S1.out.blk (i := 0) rfl).cell (i := 0) rfl
    clear bel x0
    go_wp2_with fail
    refine (sauts_any _ HO.out HX.out (HA.out.keep S1.out.below)).mono ?_
    rintro e w2 ⟨A2, m, c2, rfl, hm, own, bel⟩
    have S2 := Lib.hid (S1.out.go bel)
    have OWN := Lib.hid (ownSS_wide own S1.out.lo (Nat.le_refl _))
    have HM := Lib.hid hm
    clear bel x1 own hm
    go_wp2
    go_ret2
    exact ⟨by rw [HM.out]; rfl, S2.out.below⟩

end Go.Proofs.Ytmikoihpmhfafaa
