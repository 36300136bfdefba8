/- IsCovering of both sides; impl.readCovering and spec.l07Code. -/
import Derived.Test.YtmgoaabeopnopaaCx
import Derived.Test.YtmgoaabeopnopaaCy
import Derived.Test.YtmgoaabeopnopaaAe
namespace Go.Proofs.Ytmgoaabeopnopaa
open Go.RowKit

theorem cvC7_1 {xss yss : List (List Int)} {L : List Int} (h : okMan xss = false) : cvC7 xss yss L = 1 := by simp [cvC7, h]
theorem cvC7_2 {xss yss : List (List Int)} {L : List Int} (h : okMan xss = true) (h2 : okMan yss = false) : cvC7 xss yss L = 1 := by simp [cvC7, h, h2]
theorem cvC7_3 {xss yss : List (List Int)} {L : List Int} (h : okMan xss = true) (h2 : okMan yss = true) (h3 : cvB7 xss yss L = false) : cvC7 xss yss L = 2 := by simp [cvC7, h, h2, h3]
theorem cvC7_4 {xss yss : List (List Int)} {L : List Int} (h : okMan xss = true) (h2 : okMan yss = true) (h3 : cvB7 xss yss L = true) : cvC7 xss yss L = 0 := by simp [cvC7, h, h2, h3]
/-- What readCovering answers beside a code. -/
def c7V (C : Int) (AL : Option Addr) (nL cL : Nat) (A : Option Addr) (N c : Nat) (A1 : Option Addr) (k c1 : Nat) : Value := if C = 0 then .agg #[.slice AL nL cL, .slice A N c, .slice A1 k c1] else .agg #[.slice none 0 0, .slice none 0 0, .slice none 0 0]

set_option maxHeartbeats 3200000 in
set_option maxRecDepth 8000 in
theorem iIsCovering_any {AL A A1 : Option Addr} {nL cL N c k c1 : Nat} {xss yss : List (List Int)} {L : List Int} (w : World) (hx : xss.length = N) (ha : RdSS w A xss) (hN : N ≤ 1048576) (hr : ∀ xs ∈ xss, (xs.length : Int) ≤ 1048576) (hy : yss.length = k) (hb : RdSS w A1 yss) (hk : k ≤ 1048576) (hs : ∀ xs ∈ yss, (xs.length : Int) ≤ 1048576) (hl : L.length = nL) (hL : Rd w AL (ints L)) (hLn : nL ≤ 1048576) :
    Calls Try.prog 36 #[.agg #[.slice A N c], .agg #[.slice A1 k c1], .slice AL nL cL] w (fun e w' => e = .returned (.tuple #[.bool (icB7 xss yss L), .int .i64 (ccC7 xss yss)]) ∧ Below w.heap.size w w') := by
  have HX := Lib.hid hx
  have HA := Lib.hid ha
  have HR := Lib.hid hr
  have HY := Lib.hid hy
  have HB := Lib.hid hb
  have HT := Lib.hid hs
  have HLL := Lib.hid hl
  have HL := Lib.hid hL
  have st0 := ((St.start w).addBlk #[.slice A N c] 27).addBlk #[.slice A1 k c1] 27
  simp at st0
  have S0 := Lib.hid st0
  have x0 := (st0.blk (i := 0) rfl).cell (i := 0) rfl
  have y0 := (st0.blk (i := 1) rfl).cell (i := 0) rfl
  clear st0 hx ha hr hy hb hs hl hL
  cases ho : okMan xss
  · have HO := Lib.hid ho
    have e0 : icB7 xss yss L = false := by simp [icB7, ho]
    have e1 : ccC7 xss yss = 1 := by simp [ccC7, ho]
    rw [e0, e1]
    clear e0 e1
    clear ho
    go_enter Try.func36, Try.ntmps36
    go_wp2_with fail
    refine (iMan_any _ HX.out (HA.out.keep S0.out.below) hN HR.out).mono ?_
    rintro e w1 ⟨rfl, bel⟩
    rw [HO.out]
    have S1 := Lib.hid (S0.out.go bel)
    clear bel
    go_wp2
    go_ret2
    exact ⟨rfl, S1.out.below⟩
  · cases hp : okMan yss
    · have HO := Lib.hid ho
      have HP := Lib.hid hp
      have e0 : icB7 xss yss L = false := by simp [icB7, ho, hp]
      have e1 : ccC7 xss yss = 1 := by simp [ccC7, ho, hp]
      rw [e0, e1]
      clear e0 e1
      clear ho hp
      go_enter Try.func36, Try.ntmps36
      go_wp2_with fail
      refine (iMan_any _ HX.out (HA.out.keep S0.out.below) hN HR.out).mono ?_
      rintro e w1 ⟨rfl, bel⟩
      rw [HO.out]
      have S1 := Lib.hid (S0.out.go bel)
      have y1 := (S1.out.blk (i := 1) rfl).cell (i := 0) rfl
      clear bel
      go_wp2_with fail
      refine (iMan_any _ HY.out (HB.out.keep S1.out.below) hk HT.out).mono ?_
      rintro e w2 ⟨rfl, bel⟩
      rw [HP.out]
      have S2 := Lib.hid (S1.out.go bel)
      clear bel y1
      go_wp2
      go_ret2
      exact ⟨rfl, S2.out.below⟩
    · obtain ⟨r, hcv⟩ : ∃ r, cvB7 xss yss L = r := ⟨_, rfl⟩
      have HO := Lib.hid ho
      have HP := Lib.hid hp
      have HC := Lib.hid hcv
      have e0 : icB7 xss yss L = r := by simp [icB7, ho, hp, hcv]
      have e1 : ccC7 xss yss = 0 := by simp [ccC7, ho, hp]
      rw [e0, e1]
      clear e0 e1
      clear ho hp hcv
      go_enter Try.func36, Try.ntmps36
      go_wp2_with fail
      refine (iMan_any _ HX.out (HA.out.keep S0.out.below) hN HR.out).mono ?_
      rintro e w1 ⟨rfl, bel⟩
      rw [HO.out]
      have S1 := Lib.hid (S0.out.go bel)
      have x1 := (S1.out.blk (i := 0) rfl).cell (i := 0) rfl
      have y1 := (S1.out.blk (i := 1) rfl).cell (i := 0) rfl
      clear bel x0 y0
      go_wp2_with fail
      refine (iMan_any _ HY.out (HB.out.keep S1.out.below) hk HT.out).mono ?_
      rintro e w2 ⟨rfl, bel⟩
      rw [HP.out]
      have S2 := Lib.hid (S1.out.go bel)
      have x2 := (S2.out.blk (i := 0) rfl).cell (i := 0) rfl
      have y2 := (S2.out.blk (i := 1) rfl).cell (i := 0) rfl
      clear bel x1 y1
      go_wp2_with fail
      refine (iCovOk_any _ HO.out HP.out HX.out HY.out HLL.out (HA.out.keep S2.out.below) (HB.out.keep S2.out.below) (HL.out.keep S2.out.below) hLn HC.out).mono ?_
      rintro e w4 ⟨rfl, bel⟩
      have S4 := Lib.hid (S2.out.go bel)
      clear bel x2 y2
      go_wp2
      go_ret2
      exact ⟨rfl, S4.out.below⟩

set_option maxHeartbeats 3200000 in
set_option maxRecDepth 8000 in
theorem sIsCovering_any {AL A A1 : Option Addr} {nL cL N c k c1 : Nat} {xss yss : List (List Int)} {L : List Int} (w : World) (hx : xss.length = N) (ha : RdSS w A xss) (hN : N ≤ 1048576) (hr : ∀ xs ∈ xss, (xs.length : Int) ≤ 1048576) (hy : yss.length = k) (hb : RdSS w A1 yss) (hk : k ≤ 1048576) (hs : ∀ xs ∈ yss, (xs.length : Int) ≤ 1048576) (hl : L.length = nL) (hL : Rd w AL (ints L)) (hLn : nL ≤ 1048576) :
    Calls Try.prog 34 #[.agg #[.slice A N c], .agg #[.slice A1 k c1], .slice AL nL cL] w (fun e w' => e = .returned (.tuple #[.bool (icB7 xss yss L), .int .i64 (ccC7 xss yss)]) ∧ Below w.heap.size w w') := by
  have HX := Lib.hid hx
  have HA := Lib.hid ha
  have HR := Lib.hid hr
  have HY := Lib.hid hy
  have HB := Lib.hid hb
  have HT := Lib.hid hs
  have HLL := Lib.hid hl
  have HL := Lib.hid hL
  have st0 := ((St.start w).addBlk #[.slice A N c] 27).addBlk #[.slice A1 k c1] 27
  simp at st0
  have S0 := Lib.hid st0
  have x0 := (st0.blk (i := 0) rfl).cell (i := 0) rfl
  have y0 := (st0.blk (i := 1) rfl).cell (i := 0) rfl
  clear st0 hx ha hr hy hb hs hl hL
  cases ho : okMan xss
  · have HO := Lib.hid ho
    have e0 : icB7 xss yss L = false := by simp [icB7, ho]
    have e1 : ccC7 xss yss = 1 := by simp [ccC7, ho]
    rw [e0, e1]
    clear e0 e1
    clear ho
    go_enter Try.func34, Try.ntmps34
    go_wp2_with fail
    refine (sIs_any _ HX.out (HA.out.keep S0.out.below) hN HR.out).mono ?_
    rintro e w1 ⟨rfl, bel⟩
    rw [HO.out]
    have S1 := Lib.hid (S0.out.go bel)
    clear bel
    go_wp2
    go_ret2
    exact ⟨rfl, S1.out.below⟩
  · cases hp : okMan yss
    · have HO := Lib.hid ho
      have HP := Lib.hid hp
      have e0 : icB7 xss yss L = false := by simp [icB7, ho, hp]
      have e1 : ccC7 xss yss = 1 := by simp [ccC7, ho, hp]
      rw [e0, e1]
      clear e0 e1
      clear ho hp
      go_enter Try.func34, Try.ntmps34
      go_wp2_with fail
      refine (sIs_any _ HX.out (HA.out.keep S0.out.below) hN HR.out).mono ?_
      rintro e w1 ⟨rfl, bel⟩
      rw [HO.out]
      have S1 := Lib.hid (S0.out.go bel)
      have y1 := (S1.out.blk (i := 1) rfl).cell (i := 0) rfl
      clear bel
      go_wp2_with fail
      refine (sIs_any _ HY.out (HB.out.keep S1.out.below) hk HT.out).mono ?_
      rintro e w2 ⟨rfl, bel⟩
      rw [HP.out]
      have S2 := Lib.hid (S1.out.go bel)
      clear bel y1
      go_wp2
      go_ret2
      exact ⟨rfl, S2.out.below⟩
    · obtain ⟨r, hcv⟩ : ∃ r, cvB7 xss yss L = r := ⟨_, rfl⟩
      have HO := Lib.hid ho
      have HP := Lib.hid hp
      have HC := Lib.hid hcv
      have e0 : icB7 xss yss L = r := by simp [icB7, ho, hp, hcv]
      have e1 : ccC7 xss yss = 0 := by simp [ccC7, ho, hp]
      rw [e0, e1]
      clear e0 e1
      clear ho hp hcv
      go_enter Try.func34, Try.ntmps34
      go_wp2_with fail
      refine (sIs_any _ HX.out (HA.out.keep S0.out.below) hN HR.out).mono ?_
      rintro e w1 ⟨rfl, bel⟩
      rw [HO.out]
      have S1 := Lib.hid (S0.out.go bel)
      have x1 := (S1.out.blk (i := 0) rfl).cell (i := 0) rfl
      have y1 := (S1.out.blk (i := 1) rfl).cell (i := 0) rfl
      clear bel x0 y0
      go_wp2_with fail
      refine (sIs_any _ HY.out (HB.out.keep S1.out.below) hk HT.out).mono ?_
      rintro e w2 ⟨rfl, bel⟩
      rw [HP.out]
      have S2 := Lib.hid (S1.out.go bel)
      have x2 := (S2.out.blk (i := 0) rfl).cell (i := 0) rfl
      have y2 := (S2.out.blk (i := 1) rfl).cell (i := 0) rfl
      clear bel x1 y1
      go_wp2_with fail
      refine (sCovering_any _ HO.out HP.out HX.out HY.out HLL.out (HA.out.keep S2.out.below) (HB.out.keep S2.out.below) (HL.out.keep S2.out.below) hLn HC.out).mono ?_
      rintro e w4 ⟨rfl, bel⟩
      have S4 := Lib.hid (S2.out.go bel)
      clear bel x2 y2
      go_wp2
      go_ret2
      exact ⟨rfl, S4.out.below⟩

set_option maxHeartbeats 3200000 in
set_option maxRecDepth 8000 in
theorem sCode7_any {AL A A1 : Option Addr} {nL cL N c k c1 : Nat} {xss yss : List (List Int)} {L : List Int} (w : World) (hx : xss.length = N) (ha : RdSS w A xss) (hN : N ≤ 1048576) (hr : ∀ xs ∈ xss, (xs.length : Int) ≤ 1048576) (hy : yss.length = k) (hb : RdSS w A1 yss) (hk : k ≤ 1048576) (hs : ∀ xs ∈ yss, (xs.length : Int) ≤ 1048576) (hl : L.length = nL) (hL : Rd w AL (ints L)) (hLn : nL ≤ 1048576) :
    Calls Try.prog 95 #[.agg #[.slice A N c], .agg #[.slice A1 k c1], .slice AL nL cL] w (fun e w' => e = .returned (.int .i64 (cvC7 xss yss L)) ∧ Below w.heap.size w w') := by
  have HX := Lib.hid hx
  have HA := Lib.hid ha
  have HR := Lib.hid hr
  have HY := Lib.hid hy
  have HB := Lib.hid hb
  have HT := Lib.hid hs
  have HLL := Lib.hid hl
  have HL := Lib.hid hL
  have st0 := ((St.start w).addBlk #[.slice A N c] 27).addBlk #[.slice A1 k c1] 27
  simp at st0
  have S0 := Lib.hid st0
  have x0 := (st0.blk (i := 0) rfl).cell (i := 0) rfl
  have y0 := (st0.blk (i := 1) rfl).cell (i := 0) rfl
  clear st0 hx ha hr hy hb hs hl hL
  cases ho : okMan xss
  · have HO := Lib.hid ho
    have e0 : cvC7 xss yss L = 1 := cvC7_1 ho
    rw [e0]
    clear e0
    clear ho
    go_enter Try.func95, Try.ntmps95
    go_wp2_with fail
    refine (sIs_any _ HX.out (HA.out.keep S0.out.below) hN HR.out).mono ?_
    rintro e w1 ⟨rfl, bel⟩
    rw [HO.out]
    have S1 := Lib.hid (S0.out.go bel)
    clear bel
    go_wp2
    go_ret
    exact ⟨rfl, S1.out.below⟩
  · cases hp : okMan yss
    · have HO := Lib.hid ho
      have HP := Lib.hid hp
      have e0 : cvC7 xss yss L = 1 := cvC7_2 ho hp
      rw [e0]
      clear e0
      clear ho hp
      go_enter Try.func95, Try.ntmps95
      go_wp2_with fail
      refine (sIs_any _ HX.out (HA.out.keep S0.out.below) hN HR.out).mono ?_
      rintro e w1 ⟨rfl, bel⟩
      rw [HO.out]
      have S1 := Lib.hid (S0.out.go bel)
      have y1 := (S1.out.blk (i := 1) rfl).cell (i := 0) rfl
      clear bel
      go_wp2_with fail
      refine (sIs_any _ HY.out (HB.out.keep S1.out.below) hk HT.out).mono ?_
      rintro e w2 ⟨rfl, bel⟩
      rw [HP.out]
      have S2 := Lib.hid (S1.out.go bel)
      clear bel y1
      go_wp2
      go_ret
      exact ⟨rfl, S2.out.below⟩
    · obtain ⟨r, hcv⟩ : ∃ r, cvB7 xss yss L = r := ⟨_, rfl⟩
      have HO := Lib.hid ho
      have HP := Lib.hid hp
      have HC := Lib.hid hcv
      cases r with
      | false =>
        have e0 : cvC7 xss yss L = 2 := cvC7_3 ho hp hcv
        rw [e0]
        clear e0
        clear ho hp hcv
        go_enter Try.func95, Try.ntmps95
        go_wp2_with fail
        refine (sIs_any _ HX.out (HA.out.keep S0.out.below) hN HR.out).mono ?_
        rintro e w1 ⟨rfl, bel⟩
        rw [HO.out]
        have S1 := Lib.hid (S0.out.go bel)
        have x1 := (S1.out.blk (i := 0) rfl).cell (i := 0) rfl
        have y1 := (S1.out.blk (i := 1) rfl).cell (i := 0) rfl
        clear bel x0 y0
        go_wp2_with fail
        refine (sIs_any _ HY.out (HB.out.keep S1.out.below) hk HT.out).mono ?_
        rintro e w2 ⟨rfl, bel⟩
        rw [HP.out]
        have S2 := Lib.hid (S1.out.go bel)
        have x2 := (S2.out.blk (i := 0) rfl).cell (i := 0) rfl
        have y2 := (S2.out.blk (i := 1) rfl).cell (i := 0) rfl
        clear bel x1 y1
        go_wp2_with fail
        refine (sCovering_any _ HO.out HP.out HX.out HY.out HLL.out (HA.out.keep S2.out.below) (HB.out.keep S2.out.below) (HL.out.keep S2.out.below) hLn HC.out).mono ?_
        rintro e w4 ⟨rfl, bel⟩
        have S4 := Lib.hid (S2.out.go bel)
        clear bel x2 y2
        go_wp2
        go_ret
        exact ⟨rfl, S4.out.below⟩
      | true =>
        have e0 : cvC7 xss yss L = 0 := cvC7_4 ho hp hcv
        rw [e0]
        clear e0
        clear ho hp hcv
        go_enter Try.func95, Try.ntmps95
        go_wp2_with fail
        refine (sIs_any _ HX.out (HA.out.keep S0.out.below) hN HR.out).mono ?_
        rintro e w1 ⟨rfl, bel⟩
        rw [HO.out]
        have S1 := Lib.hid (S0.out.go bel)
        have x1 := (S1.out.blk (i := 0) rfl).cell (i := 0) rfl
        have y1 := (S1.out.blk (i := 1) rfl).cell (i := 0) rfl
        clear bel x0 y0
        go_wp2_with fail
        refine (sIs_any _ HY.out (HB.out.keep S1.out.below) hk HT.out).mono ?_
        rintro e w2 ⟨rfl, bel⟩
        rw [HP.out]
        have S2 := Lib.hid (S1.out.go bel)
        have x2 := (S2.out.blk (i := 0) rfl).cell (i := 0) rfl
        have y2 := (S2.out.blk (i := 1) rfl).cell (i := 0) rfl
        clear bel x1 y1
        go_wp2_with fail
        refine (sCovering_any _ HO.out HP.out HX.out HY.out HLL.out (HA.out.keep S2.out.below) (HB.out.keep S2.out.below) (HL.out.keep S2.out.below) hLn HC.out).mono ?_
        rintro e w4 ⟨rfl, bel⟩
        have S4 := Lib.hid (S2.out.go bel)
        clear bel x2 y2
        go_wp2
        go_ret
        exact ⟨rfl, S4.out.below⟩

set_option maxHeartbeats 3200000 in
set_option maxRecDepth 8000 in
theorem iRead7_any {AL A A1 : Option Addr} {nL cL N c k c1 : Nat} {xss yss : List (List Int)} {L : List Int} (w : World) (hx : xss.length = N) (ha : RdSS w A xss) (hN : N ≤ 1048576) (hr : ∀ xs ∈ xss, (xs.length : Int) ≤ 1048576) (hy : yss.length = k) (hb : RdSS w A1 yss) (hk : k ≤ 1048576) (hs : ∀ xs ∈ yss, (xs.length : Int) ≤ 1048576) (hl : L.length = nL) (hL : Rd w AL (ints L)) (hLn : nL ≤ 1048576) :
    Calls Try.prog 98 #[.agg #[.slice A N c], .agg #[.slice A1 k c1], .slice AL nL cL] w (fun e w' => e = .returned (.tuple #[c7V (cvC7 xss yss L) AL nL cL A N c A1 k c1, .int .i64 (cvC7 xss yss L)]) ∧ Below w.heap.size w w') := by
  have HX := Lib.hid hx
  have HA := Lib.hid ha
  have HR := Lib.hid hr
  have HY := Lib.hid hy
  have HB := Lib.hid hb
  have HT := Lib.hid hs
  have HLL := Lib.hid hl
  have HL := Lib.hid hL
  have st0 := ((St.start w).addBlk #[.slice A N c] 27).addBlk #[.slice A1 k c1] 27
  simp at st0
  replace st0 := st0.addBlk (c7cells none 0 0 none 0 0 none 0 0) 88
  simp at st0
  have S0 := Lib.hid st0
  have x0 := (st0.blk (i := 0) rfl).cell (i := 0) rfl
  have y0 := (st0.blk (i := 1) rfl).cell (i := 0) rfl
  clear st0 hx ha hr hy hb hs hl hL
  cases ho : okMan xss
  · have HO := Lib.hid ho
    have e0 : cvC7 xss yss L = 1 := cvC7_1 ho
    rw [e0]
    clear e0
    rw [show c7V 1 AL nL cL A N c A1 k c1 = .agg #[.slice none 0 0, .slice none 0 0, .slice none 0 0] from rfl]
    clear ho
    go_enter Try.func98, Try.ntmps98
    go_wp2_with fail
    refine (iMan_any _ HX.out (HA.out.keep S0.out.below) hN HR.out).mono ?_
    rintro e w1 ⟨rfl, bel⟩
    rw [HO.out]
    have S1 := Lib.hid (S0.out.go bel)
    clear bel
    have z0 := (S1.out.blk (i := 2) rfl).cell (i := 0) rfl
    have z1 := (S1.out.blk (i := 2) rfl).cell (i := 1) rfl
    have z2 := (S1.out.blk (i := 2) rfl).cell (i := 2) rfl
    have f0 := (S1.out.blk (i := 2) rfl).free 0
    have f1 := (S1.out.blk (i := 2) rfl).free 1
    have f2 := (S1.out.blk (i := 2) rfl).free 2
    go_wp2
    have st4 := ((S1.out.blkSet (i := 2) rfl 0 (.slice none 0 0)).blkSet (i := 2) rfl 1 (.slice none 0 0)).blkSet (i := 2) rfl 2 (.slice none 0 0)
    have u0 := (st4.blk (i := 2) rfl).cell (i := 0) rfl
    have u1 := (st4.blk (i := 2) rfl).cell (i := 1) rfl
    have u2 := (st4.blk (i := 2) rfl).cell (i := 2) rfl
    refine bodyPost_ret (v := .tuple #[.agg #[.slice none 0 0, .slice none 0 0, .slice none 0 0], .int .i64 1]) (by simp [results, Try.results98, go_sem, u0, u1, u2]) rfl ⟨rfl, st4.below⟩
  · cases hp : okMan yss
    · have HO := Lib.hid ho
      have HP := Lib.hid hp
      have e0 : cvC7 xss yss L = 1 := cvC7_2 ho hp
      rw [e0]
      clear e0
      rw [show c7V 1 AL nL cL A N c A1 k c1 = .agg #[.slice none 0 0, .slice none 0 0, .slice none 0 0] from rfl]
      clear ho hp
      go_enter Try.func98, Try.ntmps98
      go_wp2_with fail
      refine (iMan_any _ HX.out (HA.out.keep S0.out.below) hN HR.out).mono ?_
      rintro e w1 ⟨rfl, bel⟩
      rw [HO.out]
      have S1 := Lib.hid (S0.out.go bel)
      have y1 := (S1.out.blk (i := 1) rfl).cell (i := 0) rfl
      clear bel
      go_wp2_with fail
      refine (iMan_any _ HY.out (HB.out.keep S1.out.below) hk HT.out).mono ?_
      rintro e w2 ⟨rfl, bel⟩
      rw [HP.out]
      have S2 := Lib.hid (S1.out.go bel)
      clear bel y1
      have z0 := (S2.out.blk (i := 2) rfl).cell (i := 0) rfl
      have z1 := (S2.out.blk (i := 2) rfl).cell (i := 1) rfl
      have z2 := (S2.out.blk (i := 2) rfl).cell (i := 2) rfl
      have f0 := (S2.out.blk (i := 2) rfl).free 0
      have f1 := (S2.out.blk (i := 2) rfl).free 1
      have f2 := (S2.out.blk (i := 2) rfl).free 2
      go_wp2
      have st4 := ((S2.out.blkSet (i := 2) rfl 0 (.slice none 0 0)).blkSet (i := 2) rfl 1 (.slice none 0 0)).blkSet (i := 2) rfl 2 (.slice none 0 0)
      have u0 := (st4.blk (i := 2) rfl).cell (i := 0) rfl
      have u1 := (st4.blk (i := 2) rfl).cell (i := 1) rfl
      have u2 := (st4.blk (i := 2) rfl).cell (i := 2) rfl
      refine bodyPost_ret (v := .tuple #[.agg #[.slice none 0 0, .slice none 0 0, .slice none 0 0], .int .i64 1]) (by simp [results, Try.results98, go_sem, u0, u1, u2]) rfl ⟨rfl, st4.below⟩
    · obtain ⟨r, hcv⟩ : ∃ r, cvB7 xss yss L = r := ⟨_, rfl⟩
      have HO := Lib.hid ho
      have HP := Lib.hid hp
      have HC := Lib.hid hcv
      cases r with
      | false =>
        have e0 : cvC7 xss yss L = 2 := cvC7_3 ho hp hcv
        rw [e0]
        clear e0
        rw [show c7V 2 AL nL cL A N c A1 k c1 = .agg #[.slice none 0 0, .slice none 0 0, .slice none 0 0] from rfl]
        clear ho hp hcv
        go_enter Try.func98, Try.ntmps98
        go_wp2_with fail
        refine (iMan_any _ HX.out (HA.out.keep S0.out.below) hN HR.out).mono ?_
        rintro e w1 ⟨rfl, bel⟩
        rw [HO.out]
        have S1 := Lib.hid (S0.out.go bel)
        have x1 := (S1.out.blk (i := 0) rfl).cell (i := 0) rfl
        have y1 := (S1.out.blk (i := 1) rfl).cell (i := 0) rfl
        clear bel x0 y0
        go_wp2_with fail
        refine (iMan_any _ HY.out (HB.out.keep S1.out.below) hk HT.out).mono ?_
        rintro e w2 ⟨rfl, bel⟩
        rw [HP.out]
        have S2 := Lib.hid (S1.out.go bel)
        have x2 := (S2.out.blk (i := 0) rfl).cell (i := 0) rfl
        have y2 := (S2.out.blk (i := 1) rfl).cell (i := 0) rfl
        clear bel x1 y1
        have S3 := Lib.hid (S2.out.addBlk (c7cells AL nL cL A N c A1 k c1) 88)
        have t0 := (S3.out.blk (i := 3) rfl).cell (i := 0) rfl
        have t1 := (S3.out.blk (i := 3) rfl).cell (i := 1) rfl
        have t2 := (S3.out.blk (i := 3) rfl).cell (i := 2) rfl
        go_wp2_with fail
        refine (iCovOk_any _ HO.out HP.out HX.out HY.out HLL.out (HA.out.keep S3.out.below) (HB.out.keep S3.out.below) (HL.out.keep S3.out.below) hLn HC.out).mono ?_
        rintro e w4 ⟨rfl, bel⟩
        have S4 := Lib.hid (S3.out.go bel)
        clear bel x2 y2 t0 t1 t2
        have t0 := (S4.out.blk (i := 3) rfl).cell (i := 0) rfl
        have t1 := (S4.out.blk (i := 3) rfl).cell (i := 1) rfl
        have t2 := (S4.out.blk (i := 3) rfl).cell (i := 2) rfl
        have z0 := (S4.out.blk (i := 2) rfl).cell (i := 0) rfl
        have z1 := (S4.out.blk (i := 2) rfl).cell (i := 1) rfl
        have z2 := (S4.out.blk (i := 2) rfl).cell (i := 2) rfl
        have f0 := (S4.out.blk (i := 2) rfl).free 0
        have f1 := (S4.out.blk (i := 2) rfl).free 1
        have f2 := (S4.out.blk (i := 2) rfl).free 2
        go_wp2
        have st4 := ((S4.out.blkSet (i := 2) rfl 0 (.slice none 0 0)).blkSet (i := 2) rfl 1 (.slice none 0 0)).blkSet (i := 2) rfl 2 (.slice none 0 0)
        have u0 := (st4.blk (i := 2) rfl).cell (i := 0) rfl
        have u1 := (st4.blk (i := 2) rfl).cell (i := 1) rfl
        have u2 := (st4.blk (i := 2) rfl).cell (i := 2) rfl
        refine bodyPost_ret (v := .tuple #[.agg #[.slice none 0 0, .slice none 0 0, .slice none 0 0], .int .i64 2]) (by simp [results, Try.results98, go_sem, u0, u1, u2]) rfl ⟨rfl, st4.below⟩
      | true =>
        have e0 : cvC7 xss yss L = 0 := cvC7_4 ho hp hcv
        rw [e0]
        clear e0
        rw [show c7V 0 AL nL cL A N c A1 k c1 = .agg #[.slice AL nL cL, .slice A N c, .slice A1 k c1] from rfl]
        clear ho hp hcv
        go_enter Try.func98, Try.ntmps98
        go_wp2_with fail
        refine (iMan_any _ HX.out (HA.out.keep S0.out.below) hN HR.out).mono ?_
        rintro e w1 ⟨rfl, bel⟩
        rw [HO.out]
        have S1 := Lib.hid (S0.out.go bel)
        have x1 := (S1.out.blk (i := 0) rfl).cell (i := 0) rfl
        have y1 := (S1.out.blk (i := 1) rfl).cell (i := 0) rfl
        clear bel x0 y0
        go_wp2_with fail
        refine (iMan_any _ HY.out (HB.out.keep S1.out.below) hk HT.out).mono ?_
        rintro e w2 ⟨rfl, bel⟩
        rw [HP.out]
        have S2 := Lib.hid (S1.out.go bel)
        have x2 := (S2.out.blk (i := 0) rfl).cell (i := 0) rfl
        have y2 := (S2.out.blk (i := 1) rfl).cell (i := 0) rfl
        clear bel x1 y1
        have S3 := Lib.hid (S2.out.addBlk (c7cells AL nL cL A N c A1 k c1) 88)
        have t0 := (S3.out.blk (i := 3) rfl).cell (i := 0) rfl
        have t1 := (S3.out.blk (i := 3) rfl).cell (i := 1) rfl
        have t2 := (S3.out.blk (i := 3) rfl).cell (i := 2) rfl
        go_wp2_with fail
        refine (iCovOk_any _ HO.out HP.out HX.out HY.out HLL.out (HA.out.keep S3.out.below) (HB.out.keep S3.out.below) (HL.out.keep S3.out.below) hLn HC.out).mono ?_
        rintro e w4 ⟨rfl, bel⟩
        have S4 := Lib.hid (S3.out.go bel)
        clear bel x2 y2 t0 t1 t2
        have t0 := (S4.out.blk (i := 3) rfl).cell (i := 0) rfl
        have t1 := (S4.out.blk (i := 3) rfl).cell (i := 1) rfl
        have t2 := (S4.out.blk (i := 3) rfl).cell (i := 2) rfl
        have z0 := (S4.out.blk (i := 2) rfl).cell (i := 0) rfl
        have z1 := (S4.out.blk (i := 2) rfl).cell (i := 1) rfl
        have z2 := (S4.out.blk (i := 2) rfl).cell (i := 2) rfl
        have f0 := (S4.out.blk (i := 2) rfl).free 0
        have f1 := (S4.out.blk (i := 2) rfl).free 1
        have f2 := (S4.out.blk (i := 2) rfl).free 2
        go_wp2
        have st4 := ((S4.out.blkSet (i := 2) rfl 0 (.slice AL nL cL)).blkSet (i := 2) rfl 1 (.slice A N c)).blkSet (i := 2) rfl 2 (.slice A1 k c1)
        have u0 := (st4.blk (i := 2) rfl).cell (i := 0) rfl
        have u1 := (st4.blk (i := 2) rfl).cell (i := 1) rfl
        have u2 := (st4.blk (i := 2) rfl).cell (i := 2) rfl
        refine bodyPost_ret (v := .tuple #[.agg #[.slice AL nL cL, .slice A N c, .slice A1 k c1], .int .i64 0]) (by simp [results, Try.results98, go_sem, u0, u1, u2]) rfl ⟨rfl, st4.below⟩

end Go.Proofs.Ytmgoaabeopnopaa
