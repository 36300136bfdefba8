/- spec.l01Index, l01Has, l03Is, IsPoset. -/
import Derived.Test.YtnfngfpfihkclaaPb2
namespace Go.Proofs.Ytnfngfpfihkclaa
open Go.RowKit

set_option maxHeartbeats 800000 in
theorem sidx_any {A : Option Addr} {n c : Nat} {xs : List Int} (x : Int) (w : World) (hx : xs.length = n) (ha : Rd w A (ints xs)) (hn : n ≤ 1048576) :
    Calls Try.prog 115 #[.slice A n c, .int .i64 x] w fun e w' => ∃ r : Int, e = .returned (.int .i64 r) ∧ ((x ∈ xs ∧ 0 ≤ r ∧ r ≤ 1048576 ∧ xs[r.toNat]? = some x) ∨ (¬ x ∈ xs ∧ r = -1)) ∧ w = w' := by
  have HX := Lib.hid hx
  have HA := Lib.hid ha
  clear hx ha
  go_enter Try.func115, Try.ntmps115
  go_wp2
  go_loop [5] (fun v => ∃ k : Nat, k ≤ n ∧ v = .int .i64 k ∧ ¬ x ∈ xs.take k) (fun v => n - (intOf v).toNat)
  case atStart => exact ⟨0, Nat.zero_le _, rfl, by simp⟩
  case round =>
    obtain ⟨k, hk, rfl, hno⟩ := hrel
    have HNO := Lib.hid hno
    clear hno
    by_cases hlt : k < n
    · obtain ⟨b, o, y, rfl, hg, hc⟩ := HA.out.int (k := k) (by rw [HX.out]; exact hlt)
      have HG := Lib.hid hg
      clear hg
      by_cases he : y = x
      · subst he
        have hd : (y == y) = true := by simp
        go_wp2
        go_ret
        exact ⟨k, rfl, .inl ⟨List.mem_of_getElem? HG.out, by omega, by omega, by simpa using HG.out⟩, rfl⟩
      · have hd : (y == x) = false := by rw [beq_eq_false_iff_ne]; exact he
        have HN2 := Lib.hid (show ¬ x ∈ xs.take (k + 1) from fun h => by
          rw [take_succ_of HG.out] at h
          rcases List.mem_append.1 h with h | h
          · exact HNO.out h
          · simp at h; exact he h.symm)
        clear he
        go_wp2
        go_round
        case rel => exact ⟨k + 1, by omega, by go_num, HN2.out⟩
        case measure => simp [intOf]; omega
    · have HN2 := Lib.hid (show ¬ x ∈ xs from fun h => HNO.out (by rw [List.take_of_length_le (by rw [HX.out]; omega)]; exact h))
      go_wp2
      go_ret
      exact ⟨-1, rfl, .inr ⟨HN2.out, rfl⟩, rfl⟩

theorem shas_yes {A : Option Addr} {n c : Nat} {xs : List Int} {x : Int} (w : World) (hx : xs.length = n) (ha : Rd w A (ints xs)) (hn : n ≤ 1048576) (h : x ∈ xs) :
    Calls Try.prog 75 #[.slice A n c, .int .i64 x] w fun e w' => e = .returned (.bool true) ∧ w = w' := by
  have HX := Lib.hid hx
  have HA := Lib.hid ha
  have H := Lib.hid h
  clear hx ha h
  go_enter Try.func75, Try.ntmps75
  go_wp2_with fail
  refine (sidx_any x _ HX.out HA.out hn).mono ?_
  rintro e w1 ⟨r, rfl, hr, rfl⟩
  have h0 : 0 ≤ r := by rcases hr with ⟨_, h, _⟩ | ⟨h, _⟩; exact h; exact absurd H.out h
  clear hr
  go_wp2
  go_ret
  exact ⟨rfl, rfl⟩
theorem shas_no {A : Option Addr} {n c : Nat} {xs : List Int} {x : Int} (w : World) (hx : xs.length = n) (ha : Rd w A (ints xs)) (hn : n ≤ 1048576) (h : ¬ x ∈ xs) :
    Calls Try.prog 75 #[.slice A n c, .int .i64 x] w fun e w' => e = .returned (.bool false) ∧ w = w' := by
  have HX := Lib.hid hx
  have HA := Lib.hid ha
  have H := Lib.hid h
  clear hx ha h
  go_enter Try.func75, Try.ntmps75
  go_wp2_with fail
  refine (sidx_any x _ HX.out HA.out hn).mono ?_
  rintro e w1 ⟨r, rfl, hr, rfl⟩
  have h0 : r < 0 := by rcases hr with ⟨h, _⟩ | ⟨_, h⟩; exact absurd h H.out; omega
  clear hr
  go_wp2
  go_ret
  exact ⟨ret_bool (decide_eq_false (by omega)), rfl⟩
theorem shas_any {A : Option Addr} {n c : Nat} {xs : List Int} {x : Int} (w : World) (hx : xs.length = n) (ha : Rd w A (ints xs)) (hn : n ≤ 1048576) :
    Calls Try.prog 75 #[.slice A n c, .int .i64 x] w fun e w' => e = .returned (.bool (decide (x ∈ xs))) ∧ w = w' := by
  by_cases h : x ∈ xs
  · rw [decide_eq_true h]; exact shas_yes w hx ha hn h
  · rw [decide_eq_false h]; exact shas_no w hx ha hn h
theorem shas_bel {A : Option Addr} {n c : Nat} {xs : List Int} {x : Int} {r : Bool} (w : World) (hx : xs.length = n) (ha : Rd w A (ints xs)) (hn : n ≤ 1048576) (h : decide (x ∈ xs) = r) :
    Calls Try.prog 75 #[.slice A n c, .int .i64 x] w fun e w' => e = .returned (.bool r) ∧ Below w.heap.size w w' :=
  (shas_any w hx ha hn).mono fun _ _ ⟨he, hb⟩ => ⟨by rw [he, h], hb ▸ Below.refl _ _⟩
theorem in_yes_bel (x a b : Int) (w : World) (h1 : a ≤ x) (h2 : x ≤ b) : Calls Try.prog 114 #[.int .i64 x, .int .i64 a, .int .i64 b] w fun e w' => e = .returned (.bool true) ∧ Below w.heap.size w w' :=
  (in_yes x a b w h1 h2).mono fun _ _ ⟨he, hb⟩ => ⟨he, hb ▸ Below.refl _ _⟩
theorem in_no_bel (x a b : Int) (w : World) (h : x < a ∨ b < x) : Calls Try.prog 114 #[.int .i64 x, .int .i64 a, .int .i64 b] w fun e w' => e = .returned (.bool false) ∧ Below w.heap.size w w' :=
  (in_no x a b w h).mono fun _ _ ⟨he, hb⟩ => ⟨he, hb ▸ Below.refl _ _⟩

/-- The elements before e are in order. -/
structure PosTo (R : Int) (xs : List Int) (bss : List (List Int)) (e : Nat) (l : Int) : Prop where
  rk : RkTo R xs e l
  row : ∀ (i : Nat) (b : List Int), i < e → bss[i]? = some b → RowOk xs i b
  tr : ∀ (i : Nat) (b : List Int), i < e → bss[i]? = some b → ∀ d ∈ b, TrEl bss b d

set_option maxHeartbeats 6400000 in
set_option maxRecDepth 8000 in
theorem sPos_any {R : Int} {A B : Option Addr} {N c M d : Nat} {xs : List Int} {bss : List (List Int)} (w : World) (hx : xs.length = N) (ha : Rd w A (ints xs)) (hy : bss.length = M) (hb : RdSS w B bss) (hN : N ≤ 1048576) (hM : M ≤ 1048576) (hr : ∀ xs ∈ bss, (xs.length : Int) ≤ 1048576) :
    Calls Try.prog 74 #[.agg #[.int .i64 R, .slice A N c, .slice B M d]] w fun e w' => e = .returned (.bool (posB R xs bss)) ∧ Below w.heap.size w w' := by
  have HX := Lib.hid hx
  have HA := Lib.hid ha
  have HY := Lib.hid hy
  have HB := Lib.hid hb
  have HR := Lib.hid hr
  have BX0 := Lib.hid (Bp.start w #[.int .i64 R, .slice A N c, .slice B M d] 30)
  have q0 := BX0.out.cell0
  have q1 := BX0.out.cell1
  have q2 := BX0.out.cell2
  by_cases h1 : R < 1 ∨ 5 < R
  · have hs := Lib.hid (pB_false (p := OkPos R xs bss) fun h => by have := h.ranks.r1; have := h.ranks.r5; omega)
    clear hx ha hy hb hr
    go_enter Try.func74, Try.ntmps74
    go_wp2_with fail
    refine (in_no _ _ _ _ h1).mono ?_
    rintro e w' ⟨rfl, rfl⟩
    go_wp2
    go_ret
    exact ⟨ret_bool hs.out.symm, BX0.out.below⟩
  have hR1 : 1 ≤ R := by omega
  have hR5 : R ≤ 5 := by omega
  clear h1
  by_cases h500 : 500 < N
  · have hs := Lib.hid (pB_false (p := OkPos R xs bss) fun h => by have := h.ranks.n; omega)
    clear hx ha hy hb hr
    go_enter Try.func74, Try.ntmps74
    go_wp2_with fail
    refine (in_yes _ _ _ _ hR1 hR5).mono ?_
    rintro e w' ⟨rfl, rfl⟩
    go_wp2
    go_ret
    exact ⟨ret_bool hs.out.symm, BX0.out.below⟩
  by_cases hMN : M = N
  · subst hMN
    have hne : ((M : Int) != (M : Int)) = false := by simp
    clear hx ha hy hb hr
    go_enter Try.func74, Try.ntmps74
    go_wp2_with fail
    refine (in_yes _ _ _ _ hR1 hR5).mono ?_
    rintro e w' ⟨rfl, rfl⟩
    go_wp2
    clear hne q0 q1 q2
    go_loopw [3] (fun v wr => ∃ (k : Nat) (l : Int), k ≤ M ∧ v = .int .i64 k ∧ PosTo R xs bss k l ∧ Bp w wr #[.int .i64 R, .slice A M c, .slice B M d] 30) (fun v _ => M - (intOf v).toNat)
    case atStart => exact ⟨0, 0, Nat.zero_le _, rfl, ⟨rkTo_start, fun i b h => absurd h (by omega), fun i b h => absurd h (by omega)⟩, BX0.out⟩
    case round =>
      obtain ⟨k, l, hk, rfl, pt, bx⟩ := hrel
      have PT := Lib.hid pt
      have BX := Lib.hid bx
      clear pt bx
      have hh0 := BX.out.cell0
      have hh1 := BX.out.cell1
      have hh2 := BX.out.cell2
      by_cases hlt : k < M
      · obtain ⟨b1, o1, x, rfl, hg, hc⟩ := (HA.out.keep BX.out.below).int (k := k) (by rw [HX.out]; exact hlt)
        have HG := Lib.hid hg
        have HC := Lib.hid hc
        have q0 := BelowOf.cell BX.out.cell0
        have q1 := BelowOf.cell BX.out.cell1
        have qk := BelowOf.cell hc
        have hkI : (k : Int) < (M : Int) := by omega
        have i4 : IntKind.i64.wrap (R - 1) = R - 1 := IntWalk.i64_in _ (by omega)
        clear hg hc
        by_cases hbad : x < 0 ∨ R - 1 < x
        · have hs := Lib.hid (pB_false (p := OkPos R xs bss) fun h => rkTo_bad (r := x) PT.out.rk HG.out (by have := PT.out.rk.nn; omega) h.ranks)
          go_wp2
          refine wp_region_quiet_below (by kernel_rfl) (by kernel_rfl) ?_
          repeat (go_big_quiet_step ((go_at_call 114; exact Calls.below_of (in_no_bel _ _ _ _ hbad))))
          refine wpQuiet_nil ?_
          intro wq hw'
          obtain ⟨⟨wv, hbq⟩, hw''⟩ := hw'
          subst hw''
          go_wp2
          go_ret
          exact ⟨ret_bool hs.out.symm, (BX.out.go hbq).below⟩
        have hx0 : 0 ≤ x := by omega
        have hxR : x ≤ R - 1 := by omega
        clear hbad
        by_cases hlo : x < l
        · obtain ⟨j, hj⟩ : ∃ j, k = j + 1 := ⟨k - 1, by
            rcases Nat.eq_zero_or_pos k with h | h
            · have := PT.out.rk.z h; omega
            · omega⟩
          obtain ⟨b2, o2, y, he, hg2, hc2⟩ := (HA.out.keep BX.out.below).int (k := j) (by rw [HX.out]; omega)
          obtain ⟨rfl, rfl⟩ : b1 = b2 ∧ o1 = o2 := by simpa using he
          have hy : l = y := by have := PT.out.rk.last (by omega); rw [hj] at this; simp [hg2] at this; exact this.symm
          subst hy
          have hs := Lib.hid (pB_false (p := OkPos R xs bss) fun h => rkTo_bad (r := x) PT.out.rk HG.out (.inl hlo) h.ranks)
          have qj := BelowOf.cell hc2
          have g1 : decide (0 < k) = true := decide_eq_true (by omega)
          have g1' : (0 : Int) < (k : Int) := by omega
          have g2 : decide (x < l) = true := decide_eq_true hlo
          have i5 : IntKind.i64.wrap ((k : Int) - 1) = (j : Int) := (IntWalk.i64_in _ (by omega)).trans (by omega)
          have i6 : (j : Int) < (M : Int) := by omega
          have HJ := Lib.hid hj
          clear he hg2 hc2 hj
          go_wp2
          refine wp_region_quiet_below (by kernel_rfl) (by kernel_rfl) ?_
          repeat (go_big_quiet_step ((go_at_call 114; exact Calls.below_of (in_yes_bel _ _ _ _ hx0 hxR))))
          refine wpQuiet_nil ?_
          intro wq hw'
          obtain ⟨⟨wv, hbq⟩, hw''⟩ := hw'
          subst hw''
          go_wp2
          go_ret
          exact ⟨ret_bool hs.out.symm, (BX.out.go hbq).below⟩
        · have RK2 := Lib.hid (rkTo_step PT.out.rk HG.out (by omega) (show x < R by omega))
          obtain ⟨b3, o3, A2, c2, bs, rfl, hgb, hcb, hrb, hmb⟩ := (HB.out.keep BX.out.below).row (k := k) (by rw [HY.out]; exact hlt)
          obtain ⟨n2, hl2⟩ : ∃ l, bs.length = l := ⟨_, rfl⟩
          have hlr := HR.out bs (List.mem_of_getElem? hgb)
          rw [hl2] at hcb hmb hlr
          have HL2 := Lib.hid hl2
          have HGB := Lib.hid hgb
          have HRB := Lib.hid hrb
          have HCB := Lib.hid hcb
          clear hl2 hgb hrb hcb
          obtain ⟨wo, hwo⟩ : ∃ wo : World, wo = wr := ⟨_, rfl⟩
          have hcase : (k = 0) ∨ ∃ j, k = j + 1 := by rcases Nat.eq_zero_or_pos k with h | h; exact .inl h; exact .inr ⟨k - 1, by omega⟩
          rcases hcase with hz | ⟨j, hj⟩
          · have g1 : decide (0 < k) = false := decide_eq_false (by omega)
            have g1' : ¬ 0 < k := by omega
            have HJ := Lib.hid hz
            clear hz
            subst hwo
            go_wp2
            refine wp_region_quiet_below (by kernel_rfl) (by kernel_rfl) ?_
            repeat (go_big_quiet_step ((go_at_call 114; exact Calls.below_of (in_yes_bel _ _ _ _ hx0 hxR))))
            refine wpQuiet_nil ?_
            intro wq hw'
            obtain ⟨⟨wv, hbq⟩, hw''⟩ := hw'
            subst hw''
            clear g1 g1' q0 q1 qk hh0 hh1 hh2
            have BX2 := Lib.hid (BX.out.go hbq)
            have B0 := Lib.hid hbq
            clear hbq
            have hq0 := BX2.out.cell0
            have hq1 := BX2.out.cell1
            have hq2 := BX2.out.cell2
            have hqb := cell_be HCB.out B0.out
            go_wp2
            clear hq0 hq1 hq2 hqb
            go_loopw [4] (fun v wr => ∃ (i : Nat) (z : Int), i ≤ n2 ∧ v = .int .i64 i ∧ RowTo xs k bs i z ∧ (∀ d ∈ bs.take i, TrEl bss bs d) ∧ Below wq.heap.size wq wr) (fun v _ => n2 - (intOf v).toNat)
            case atStart => exact ⟨0, -1, Nat.zero_le _, rfl, rowTo_start, by simp, Below.refl _ _⟩
            case round =>
              obtain ⟨i, z, hi, rfl, rt, tr, bel⟩ := hrel
              have RT := Lib.hid rt
              have TR := Lib.hid tr
              have BEL := Lib.hid bel
              have BX3 := Lib.hid (BX2.out.go bel)
              have C3 := Lib.hid (cell_be (cell_be HCB.out B0.out) bel)
              have R3 := Lib.hid ((HRB.out.keep B0.out).keep bel)
              have K3 := Lib.hid (cell_be (cell_be HC.out B0.out) bel)
              clear rt tr bel
              have hq0 := BX3.out.cell0
              have hq1 := BX3.out.cell1
              have hq2 := BX3.out.cell2
              have hqb := C3.out
              have iw : IntKind.i64.wrap ((k : Int) - 1) = (k : Int) - 1 := IntWalk.i64_in _ (by omega)
              by_cases hil : i < n2
              · obtain ⟨b4, o4, y, rfl, hgy, hcy⟩ := R3.out.int (k := i) (by rw [HL2.out]; exact hil)
                have HGY := Lib.hid hgy
                have hqy := BelowOf.cell hcy
                have hiI : (i : Int) < (n2 : Int) := by omega
                have p0 := BelowOf.cell BX3.out.cell0
                have p1 := BelowOf.cell BX3.out.cell1
                have p2 := BelowOf.cell BX3.out.cell2
                have pb := BelowOf.cell C3.out
                have pk := BelowOf.cell K3.out
                clear hgy
                by_cases hyb : y < 0 ∨ (k : Int) - 1 < y
                · have hs := Lib.hid (pB_false (p := OkPos R xs bss) fun h => by
                    obtain ⟨j, _, _, h3, h4, _⟩ := (h.rows k bs HGB.out).el i _ HGY.out
                    omega)
                  go_wp2
                  refine wp_region_quiet_below (by kernel_rfl) (by kernel_rfl) ?_
                  repeat (go_big_quiet_step ((go_at_call 114; exact Calls.below_of (in_no_bel _ _ _ _ hyb))))
                  refine wpQuiet_nil ?_
                  intro wq hw'
                  obtain ⟨⟨wv, hbq⟩, hw''⟩ := hw'
                  subst hw''
                  go_wp2
                  go_ret
                  exact ⟨ret_bool hs.out.symm, (BX3.out.go hbq).below⟩
                have hy0 : 0 ≤ y := by omega
                have hyk : y ≤ (k : Int) - 1 := by omega
                clear hyb
                obtain ⟨m, rfl⟩ := Int.eq_ofNat_of_zero_le hy0
                obtain ⟨b5, o5, rx, he, hgr, hcr⟩ := (HA.out.keep BX3.out.below).int (k := m) (by rw [HX.out]; omega)
                obtain ⟨rfl, rfl⟩ : b1 = b5 ∧ o1 = o5 := by simpa using he
                have HGR := Lib.hid hgr
                have pm := BelowOf.cell hcr
                have hmI : (m : Int) < (M : Int) := by omega
                clear he hgr hcr
                by_cases hge : x ≤ rx
                · have gd : decide (x ≤ rx) = true := decide_eq_true hge
                  have hs := Lib.hid (pB_false (p := OkPos R xs bss) fun h => by
                    obtain ⟨j, u, v, h5, _, h6, h7, h8⟩ := (h.rows k bs HGB.out).el i _ HGY.out
                    obtain rfl : m = j := by omega
                    rw [HGR.out] at h6
                    rw [HG.out] at h7
                    injection h6 with h6
                    injection h7 with h7
                    omega)
                  go_wp2
                  refine wp_region_quiet_below (by kernel_rfl) (by kernel_rfl) ?_
                  repeat (go_big_quiet_step ((go_at_call 114; exact Calls.below_of (in_yes_bel _ _ _ _ hy0 hyk))))
                  refine wpQuiet_nil ?_
                  intro wq hw'
                  obtain ⟨⟨wv, hbq⟩, hw''⟩ := hw'
                  subst hw''
                  go_wp2
                  go_ret
                  exact ⟨ret_bool hs.out.symm, (BX3.out.go hbq).below⟩
                have gd : decide (x ≤ rx) = false := decide_eq_false hge
                have HEL := Lib.hid (show RowEl xs k (m : Int) from ⟨m, rx, x, rfl, by omega, HGR.out, HG.out, by omega⟩)
                by_cases hlz : (m : Int) ≤ z
                · obtain ⟨j2, hj2⟩ : ∃ j, i = j + 1 := ⟨i - 1, by
                    rcases Nat.eq_zero_or_pos i with h | h
                    · have := RT.out.z h; omega
                    · omega⟩
                  obtain ⟨b6, o6, y6, he, hg6, hc6⟩ := R3.out.int (k := j2) (by rw [HL2.out]; omega)
                  obtain ⟨rfl, rfl⟩ : b4 = b6 ∧ o4 = o6 := by simpa using he
                  have hy6 : z = y6 := by have := RT.out.last (by omega); rw [hj2] at this; simp [hg6] at this; exact this.symm
                  subst hy6
                  have hs := Lib.hid (pB_false (p := OkPos R xs bss) fun h => rowTo_bad RT.out HGY.out hlz (h.rows k bs HGB.out))
                  have pj := BelowOf.cell hc6
                  have e1 : decide (0 < i) = true := decide_eq_true (by omega)
                  have e1' : (0 : Int) < (i : Int) := by omega
                  have e2 : decide ((m : Int) ≤ z) = true := decide_eq_true hlz
                  have e5 : IntKind.i64.wrap ((i : Int) - 1) = (j2 : Int) := (IntWalk.i64_in _ (by omega)).trans (by omega)
                  have e6 : (j2 : Int) < (n2 : Int) := by omega
                  clear he hg6 hc6 hj2
                  go_wp2
                  refine wp_region_quiet_below (by kernel_rfl) (by kernel_rfl) ?_
                  repeat (go_big_quiet_step ((go_at_call 114; exact Calls.below_of (in_yes_bel _ _ _ _ hy0 hyk))))
                  refine wpQuiet_nil ?_
                  intro wq hw'
                  obtain ⟨⟨wv, hbq⟩, hw''⟩ := hw'
                  subst hw''
                  go_wp2
                  go_ret
                  exact ⟨ret_bool hs.out.symm, (BX3.out.go hbq).below⟩
                have RT2 := Lib.hid (rowTo_step RT.out HGY.out (by omega) HEL.out)
                have hcase2 : (i = 0) ∨ ∃ j, i = j + 1 := by rcases Nat.eq_zero_or_pos i with h | h; exact .inl h; exact .inr ⟨i - 1, by omega⟩
                rcases hcase2 with hz | ⟨j2, hj2⟩
                · have e1 : decide (0 < i) = false := decide_eq_false (by omega)
                  have e1' : ¬ 0 < i := by omega
                  clear hz
                  go_wp2
                  refine wp_region_quiet_below (by kernel_rfl) (by kernel_rfl) ?_
                  repeat (go_big_quiet_step ((go_at_call 114; exact Calls.below_of (in_yes_bel _ _ _ _ hy0 hyk))))
                  refine wpQuiet_nil ?_
                  intro wq hw'
                  obtain ⟨⟨wv, hbq⟩, hw''⟩ := hw'
                  subst hw''
                  clear e1 e1'
                  clear iw gd pm p0 p1 p2 pb pk hqy hcy hq0 hq1 hq2 hqb
                  have BX4 := Lib.hid (BX3.out.go hbq)
                  have BEL4 := Lib.hid (BEL.out.trans (hbq.mono BEL.out.size))
                  have C4 := Lib.hid (cell_be C3.out hbq)
                  have R4 := Lib.hid (R3.out.keep hbq)
                  clear hbq
                  obtain ⟨b7, o7, A7, c7, r, he, hg7, hc7, hr7, hm7⟩ := (HB.out.keep BX4.out.below).row (k := m) (by rw [HY.out]; omega)
                  obtain ⟨rfl, rfl⟩ : b3 = b7 ∧ o3 = o7 := by simpa using he
                  obtain ⟨n7, hl7⟩ : ∃ l, r.length = l := ⟨_, rfl⟩
                  have hlr7 := HR.out r (List.mem_of_getElem? hg7)
                  rw [hl7] at hc7 hm7 hlr7
                  have HL7 := Lib.hid hl7
                  have HG7 := Lib.hid hg7
                  have HR7 := Lib.hid hr7
                  have HC7 := Lib.hid hc7
                  clear he hl7 hg7 hr7 hc7
                  obtain ⟨wp, rfl⟩ : ∃ wp : World, wp = wq := ⟨_, rfl⟩
                  go_wp2
                  go_loopw [6] (fun v wr => ∃ t : Nat, t ≤ n7 ∧ v = .int .i64 t ∧ (∀ c ∈ r.take t, c ∈ bs) ∧ Below wp.heap.size wp wr) (fun v _ => n7 - (intOf v).toNat)
                  case atStart => exact ⟨0, Nat.zero_le _, rfl, by simp, Below.refl _ _⟩
                  case round =>
                    obtain ⟨t, ht, rfl, al, bel⟩ := hrel
                    have AL := Lib.hid al
                    have BX5 := Lib.hid (BX4.out.go bel)
                    have BEL5 := Lib.hid bel
                    have C5 := Lib.hid (cell_be C4.out bel)
                    have R5 := Lib.hid (R4.out.keep bel)
                    have D5 := Lib.hid (cell_be HC7.out bel)
                    have S5 := Lib.hid (HR7.out.keep bel)
                    clear al bel
                    have hq2 := BX5.out.cell2
                    have hqb := C5.out
                    have hqd := D5.out
                    by_cases htl : t < n7
                    · obtain ⟨b8, o8, u, rfl, hgu, hcu⟩ := S5.out.int (k := t) (by rw [HL7.out]; exact htl)
                      have HGU := Lib.hid hgu
                      have p2 := BelowOf.cell BX5.out.cell2
                      have pb := BelowOf.cell C5.out
                      have pd := BelowOf.cell D5.out
                      have pu := BelowOf.cell hcu
                      have htI : (t : Int) < (n7 : Int) := by omega
                      clear hgu
                      cases hin : decide (u ∈ bs)
                      · have hs := Lib.hid (pB_false (p := OkPos R xs bss) fun h => of_decide_eq_false hin (h.tr k bs HGB.out _ (List.mem_of_getElem? HGY.out) m r rfl HG7.out _ (List.mem_of_getElem? HGU.out)))
                        have HIN := Lib.hid hin
                        clear hin
                        go_wp2
                        refine wp_region_quiet_below (by kernel_rfl) (by kernel_rfl) ?_
                        repeat (go_big_quiet_step ((go_at_call 75; exact Calls.below_of (shas_bel _ HL2.out (R5.out.keep (BelowOf.h _)) (by omega) HIN.out))))
                        refine wpQuiet_nil ?_
                        intro wq hw'
                        obtain ⟨⟨wv, hbq⟩, hw''⟩ := hw'
                        subst hw''
                        go_wp2
                        go_ret
                        exact ⟨ret_bool hs.out.symm, (BX5.out.go hbq).below⟩
                      · have AL2 := Lib.hid (show ∀ c ∈ r.take (t + 1), c ∈ bs from fun c hc => by
                          rw [take_succ_of HGU.out] at hc
                          rcases List.mem_append.1 hc with h | h
                          · exact AL.out c h
                          · simp at h; subst h; exact of_decide_eq_true hin)
                        have HIN := Lib.hid hin
                        clear hin
                        go_wp2
                        refine wp_region_quiet_below (by kernel_rfl) (by kernel_rfl) ?_
                        repeat (go_big_quiet_step ((go_at_call 75; exact Calls.below_of (shas_bel _ HL2.out (R5.out.keep (BelowOf.h _)) (by omega) HIN.out))))
                        refine wpQuiet_nil ?_
                        intro wq hw'
                        obtain ⟨⟨wv, hbq⟩, hw''⟩ := hw'
                        subst hw''
                        have BEL6 := Lib.hid (BEL5.out.trans (hbq.mono BEL5.out.size))
                        clear hbq
                        go_wp2
                        go_roundw
                        case rel => exact ⟨t + 1, by omega, by go_num, AL2.out, BEL6.out⟩
                        case measure => simp [intOf]; omega
                    · have TR2 := Lib.hid (show ∀ d ∈ bs.take (i + 1), TrEl bss bs d from fun d hd => by
                        rw [take_succ_of HGY.out] at hd
                        rcases List.mem_append.1 hd with h | h
                        · exact TR.out d h
                        · simp at h
                          subst h
                          intro j' r' hj' hr' c hc
                          obtain rfl : m = j' := by omega
                          have h9 := HG7.out
                          rw [hr'] at h9
                          injection h9 with h9
                          subst h9
                          exact AL.out c (by rw [List.take_of_length_le (by rw [HL7.out]; omega)]; exact hc))
                      have BEL6 := Lib.hid (BEL4.out.trans (BEL5.out.mono BEL4.out.size))
                      go_wp2
                      go_roundw
                      case rel => exact ⟨i + 1, m, by omega, by go_num, RT2.out, TR2.out, BEL6.out⟩
                      case measure => simp [intOf]; omega
                · obtain ⟨b6, o6, y6, he, hg6, hc6⟩ := R3.out.int (k := j2) (by rw [HL2.out]; omega)
                  obtain ⟨rfl, rfl⟩ : b4 = b6 ∧ o4 = o6 := by simpa using he
                  have hy6 : z = y6 := by have := RT.out.last (by omega); rw [hj2] at this; simp [hg6] at this; exact this.symm
                  subst hy6
                  have pj := BelowOf.cell hc6
                  have e1 : decide (0 < i) = true := decide_eq_true (by omega)
                  have e1' : (0 : Int) < (i : Int) := by omega
                  have e2 : decide ((m : Int) ≤ z) = false := decide_eq_false hlz
                  have e5 : IntKind.i64.wrap ((i : Int) - 1) = (j2 : Int) := (IntWalk.i64_in _ (by omega)).trans (by omega)
                  have e6 : (j2 : Int) < (n2 : Int) := by omega
                  clear he hg6 hc6 hj2
                  go_wp2
                  refine wp_region_quiet_below (by kernel_rfl) (by kernel_rfl) ?_
                  repeat (go_big_quiet_step ((go_at_call 114; exact Calls.below_of (in_yes_bel _ _ _ _ hy0 hyk))))
                  refine wpQuiet_nil ?_
                  intro wq hw'
                  obtain ⟨⟨wv, hbq⟩, hw''⟩ := hw'
                  subst hw''
                  clear e1 e1' e2 e5 e6 pj
                  clear iw gd pm p0 p1 p2 pb pk hqy hcy hq0 hq1 hq2 hqb
                  have BX4 := Lib.hid (BX3.out.go hbq)
                  have BEL4 := Lib.hid (BEL.out.trans (hbq.mono BEL.out.size))
                  have C4 := Lib.hid (cell_be C3.out hbq)
                  have R4 := Lib.hid (R3.out.keep hbq)
                  clear hbq
                  obtain ⟨b7, o7, A7, c7, r, he, hg7, hc7, hr7, hm7⟩ := (HB.out.keep BX4.out.below).row (k := m) (by rw [HY.out]; omega)
                  obtain ⟨rfl, rfl⟩ : b3 = b7 ∧ o3 = o7 := by simpa using he
                  obtain ⟨n7, hl7⟩ : ∃ l, r.length = l := ⟨_, rfl⟩
                  have hlr7 := HR.out r (List.mem_of_getElem? hg7)
                  rw [hl7] at hc7 hm7 hlr7
                  have HL7 := Lib.hid hl7
                  have HG7 := Lib.hid hg7
                  have HR7 := Lib.hid hr7
                  have HC7 := Lib.hid hc7
                  clear he hl7 hg7 hr7 hc7
                  obtain ⟨wp, rfl⟩ : ∃ wp : World, wp = wq := ⟨_, rfl⟩
                  go_wp2
                  go_loopw [6] (fun v wr => ∃ t : Nat, t ≤ n7 ∧ v = .int .i64 t ∧ (∀ c ∈ r.take t, c ∈ bs) ∧ Below wp.heap.size wp wr) (fun v _ => n7 - (intOf v).toNat)
                  case atStart => exact ⟨0, Nat.zero_le _, rfl, by simp, Below.refl _ _⟩
                  case round =>
                    obtain ⟨t, ht, rfl, al, bel⟩ := hrel
                    have AL := Lib.hid al
                    have BX5 := Lib.hid (BX4.out.go bel)
                    have BEL5 := Lib.hid bel
                    have C5 := Lib.hid (cell_be C4.out bel)
                    have R5 := Lib.hid (R4.out.keep bel)
                    have D5 := Lib.hid (cell_be HC7.out bel)
                    have S5 := Lib.hid (HR7.out.keep bel)
                    clear al bel
                    have hq2 := BX5.out.cell2
                    have hqb := C5.out
                    have hqd := D5.out
                    by_cases htl : t < n7
                    · obtain ⟨b8, o8, u, rfl, hgu, hcu⟩ := S5.out.int (k := t) (by rw [HL7.out]; exact htl)
                      have HGU := Lib.hid hgu
                      have p2 := BelowOf.cell BX5.out.cell2
                      have pb := BelowOf.cell C5.out
                      have pd := BelowOf.cell D5.out
                      have pu := BelowOf.cell hcu
                      have htI : (t : Int) < (n7 : Int) := by omega
                      clear hgu
                      cases hin : decide (u ∈ bs)
                      · have hs := Lib.hid (pB_false (p := OkPos R xs bss) fun h => of_decide_eq_false hin (h.tr k bs HGB.out _ (List.mem_of_getElem? HGY.out) m r rfl HG7.out _ (List.mem_of_getElem? HGU.out)))
                        have HIN := Lib.hid hin
                        clear hin
                        go_wp2
                        refine wp_region_quiet_below (by kernel_rfl) (by kernel_rfl) ?_
                        repeat (go_big_quiet_step ((go_at_call 75; exact Calls.below_of (shas_bel _ HL2.out (R5.out.keep (BelowOf.h _)) (by omega) HIN.out))))
                        refine wpQuiet_nil ?_
                        intro wq hw'
                        obtain ⟨⟨wv, hbq⟩, hw''⟩ := hw'
                        subst hw''
                        go_wp2
                        go_ret
                        exact ⟨ret_bool hs.out.symm, (BX5.out.go hbq).below⟩
                      · have AL2 := Lib.hid (show ∀ c ∈ r.take (t + 1), c ∈ bs from fun c hc => by
                          rw [take_succ_of HGU.out] at hc
                          rcases List.mem_append.1 hc with h | h
                          · exact AL.out c h
                          · simp at h; subst h; exact of_decide_eq_true hin)
                        have HIN := Lib.hid hin
                        clear hin
                        go_wp2
                        refine wp_region_quiet_below (by kernel_rfl) (by kernel_rfl) ?_
                        repeat (go_big_quiet_step ((go_at_call 75; exact Calls.below_of (shas_bel _ HL2.out (R5.out.keep (BelowOf.h _)) (by omega) HIN.out))))
                        refine wpQuiet_nil ?_
                        intro wq hw'
                        obtain ⟨⟨wv, hbq⟩, hw''⟩ := hw'
                        subst hw''
                        have BEL6 := Lib.hid (BEL5.out.trans (hbq.mono BEL5.out.size))
                        clear hbq
                        go_wp2
                        go_roundw
                        case rel => exact ⟨t + 1, by omega, by go_num, AL2.out, BEL6.out⟩
                        case measure => simp [intOf]; omega
                    · have TR2 := Lib.hid (show ∀ d ∈ bs.take (i + 1), TrEl bss bs d from fun d hd => by
                        rw [take_succ_of HGY.out] at hd
                        rcases List.mem_append.1 hd with h | h
                        · exact TR.out d h
                        · simp at h
                          subst h
                          intro j' r' hj' hr' c hc
                          obtain rfl : m = j' := by omega
                          have h9 := HG7.out
                          rw [hr'] at h9
                          injection h9 with h9
                          subst h9
                          exact AL.out c (by rw [List.take_of_length_le (by rw [HL7.out]; omega)]; exact hc))
                      have BEL6 := Lib.hid (BEL4.out.trans (BEL5.out.mono BEL4.out.size))
                      go_wp2
                      go_roundw
                      case rel => exact ⟨i + 1, m, by omega, by go_num, RT2.out, TR2.out, BEL6.out⟩
                      case measure => simp [intOf]; omega
              · have PT2 := Lib.hid (show PosTo R xs bss (k + 1) x from ⟨RK2.out, fun i' b' he hb' => by
                    rcases Nat.lt_succ_iff_lt_or_eq.1 he with h | rfl
                    · exact PT.out.row i' b' h hb'
                    · have h9 := HGB.out
                      rw [hb'] at h9
                      injection h9 with h9
                      subst h9
                      exact rowTo_all RT.out (by rw [HL2.out]; omega), fun i' b' he hb' => by
                    rcases Nat.lt_succ_iff_lt_or_eq.1 he with h | rfl
                    · exact PT.out.tr i' b' h hb'
                    · have h9 := HGB.out
                      rw [hb'] at h9
                      injection h9 with h9
                      subst h9
                      intro d hd
                      exact TR.out d (by rw [List.take_of_length_le (by rw [HL2.out]; omega)]; exact hd)⟩)
                clear iw
                go_wp2
                go_roundw
                case rel => exact ⟨k + 1, x, by omega, by go_num, PT2.out, BX3.out⟩
                case measure => simp [intOf]; omega
          · obtain ⟨b2, o2, y, he, hg2, hc2⟩ := (HA.out.keep BX.out.below).int (k := j) (by rw [HX.out]; omega)
            obtain ⟨rfl, rfl⟩ : b1 = b2 ∧ o1 = o2 := by simpa using he
            have hy : l = y := by have := PT.out.rk.last (by omega); rw [hj] at this; simp [hg2] at this; exact this.symm
            subst hy
            have qj := BelowOf.cell hc2
            have g1 : decide (0 < k) = true := decide_eq_true (by omega)
            have g1' : (0 : Int) < (k : Int) := by omega
            have g2 : decide (x < l) = false := decide_eq_false hlo
            have i5 : IntKind.i64.wrap ((k : Int) - 1) = (j : Int) := (IntWalk.i64_in _ (by omega)).trans (by omega)
            have i6 : (j : Int) < (M : Int) := by omega
            have HJ := Lib.hid hj
            clear he hg2 hc2 hj
            subst hwo
            go_wp2
            refine wp_region_quiet_below (by kernel_rfl) (by kernel_rfl) ?_
            repeat (go_big_quiet_step ((go_at_call 114; exact Calls.below_of (in_yes_bel _ _ _ _ hx0 hxR))))
            refine wpQuiet_nil ?_
            intro wq hw'
            obtain ⟨⟨wv, hbq⟩, hw''⟩ := hw'
            subst hw''
            clear g1 g1' g2 i5 i6 qj q0 q1 qk hh0 hh1 hh2
            have BX2 := Lib.hid (BX.out.go hbq)
            have B0 := Lib.hid hbq
            clear hbq
            have hq0 := BX2.out.cell0
            have hq1 := BX2.out.cell1
            have hq2 := BX2.out.cell2
            have hqb := cell_be HCB.out B0.out
            go_wp2
            clear hq0 hq1 hq2 hqb
            go_loopw [4] (fun v wr => ∃ (i : Nat) (z : Int), i ≤ n2 ∧ v = .int .i64 i ∧ RowTo xs k bs i z ∧ (∀ d ∈ bs.take i, TrEl bss bs d) ∧ Below wq.heap.size wq wr) (fun v _ => n2 - (intOf v).toNat)
            case atStart => exact ⟨0, -1, Nat.zero_le _, rfl, rowTo_start, by simp, Below.refl _ _⟩
            case round =>
              obtain ⟨i, z, hi, rfl, rt, tr, bel⟩ := hrel
              have RT := Lib.hid rt
              have TR := Lib.hid tr
              have BEL := Lib.hid bel
              have BX3 := Lib.hid (BX2.out.go bel)
              have C3 := Lib.hid (cell_be (cell_be HCB.out B0.out) bel)
              have R3 := Lib.hid ((HRB.out.keep B0.out).keep bel)
              have K3 := Lib.hid (cell_be (cell_be HC.out B0.out) bel)
              clear rt tr bel
              have hq0 := BX3.out.cell0
              have hq1 := BX3.out.cell1
              have hq2 := BX3.out.cell2
              have hqb := C3.out
              have iw : IntKind.i64.wrap ((k : Int) - 1) = (k : Int) - 1 := IntWalk.i64_in _ (by omega)
              by_cases hil : i < n2
              · obtain ⟨b4, o4, y, rfl, hgy, hcy⟩ := R3.out.int (k := i) (by rw [HL2.out]; exact hil)
                have HGY := Lib.hid hgy
                have hqy := BelowOf.cell hcy
                have hiI : (i : Int) < (n2 : Int) := by omega
                have p0 := BelowOf.cell BX3.out.cell0
                have p1 := BelowOf.cell BX3.out.cell1
                have p2 := BelowOf.cell BX3.out.cell2
                have pb := BelowOf.cell C3.out
                have pk := BelowOf.cell K3.out
                clear hgy
                by_cases hyb : y < 0 ∨ (k : Int) - 1 < y
                · have hs := Lib.hid (pB_false (p := OkPos R xs bss) fun h => by
                    obtain ⟨j, _, _, h3, h4, _⟩ := (h.rows k bs HGB.out).el i _ HGY.out
                    omega)
                  go_wp2
                  refine wp_region_quiet_below (by kernel_rfl) (by kernel_rfl) ?_
                  repeat (go_big_quiet_step ((go_at_call 114; exact Calls.below_of (in_no_bel _ _ _ _ hyb))))
                  refine wpQuiet_nil ?_
                  intro wq hw'
                  obtain ⟨⟨wv, hbq⟩, hw''⟩ := hw'
                  subst hw''
                  go_wp2
                  go_ret
                  exact ⟨ret_bool hs.out.symm, (BX3.out.go hbq).below⟩
                have hy0 : 0 ≤ y := by omega
                have hyk : y ≤ (k : Int) - 1 := by omega
                clear hyb
                obtain ⟨m, rfl⟩ := Int.eq_ofNat_of_zero_le hy0
                obtain ⟨b5, o5, rx, he, hgr, hcr⟩ := (HA.out.keep BX3.out.below).int (k := m) (by rw [HX.out]; omega)
                obtain ⟨rfl, rfl⟩ : b1 = b5 ∧ o1 = o5 := by simpa using he
                have HGR := Lib.hid hgr
                have pm := BelowOf.cell hcr
                have hmI : (m : Int) < (M : Int) := by omega
                clear he hgr hcr
                by_cases hge : x ≤ rx
                · have gd : decide (x ≤ rx) = true := decide_eq_true hge
                  have hs := Lib.hid (pB_false (p := OkPos R xs bss) fun h => by
                    obtain ⟨j, u, v, h5, _, h6, h7, h8⟩ := (h.rows k bs HGB.out).el i _ HGY.out
                    obtain rfl : m = j := by omega
                    rw [HGR.out] at h6
                    rw [HG.out] at h7
                    injection h6 with h6
                    injection h7 with h7
                    omega)
                  go_wp2
                  refine wp_region_quiet_below (by kernel_rfl) (by kernel_rfl) ?_
                  repeat (go_big_quiet_step ((go_at_call 114; exact Calls.below_of (in_yes_bel _ _ _ _ hy0 hyk))))
                  refine wpQuiet_nil ?_
                  intro wq hw'
                  obtain ⟨⟨wv, hbq⟩, hw''⟩ := hw'
                  subst hw''
                  go_wp2
                  go_ret
                  exact ⟨ret_bool hs.out.symm, (BX3.out.go hbq).below⟩
                have gd : decide (x ≤ rx) = false := decide_eq_false hge
                have HEL := Lib.hid (show RowEl xs k (m : Int) from ⟨m, rx, x, rfl, by omega, HGR.out, HG.out, by omega⟩)
                by_cases hlz : (m : Int) ≤ z
                · obtain ⟨j2, hj2⟩ : ∃ j, i = j + 1 := ⟨i - 1, by
                    rcases Nat.eq_zero_or_pos i with h | h
                    · have := RT.out.z h; omega
                    · omega⟩
                  obtain ⟨b6, o6, y6, he, hg6, hc6⟩ := R3.out.int (k := j2) (by rw [HL2.out]; omega)
                  obtain ⟨rfl, rfl⟩ : b4 = b6 ∧ o4 = o6 := by simpa using he
                  have hy6 : z = y6 := by have := RT.out.last (by omega); rw [hj2] at this; simp [hg6] at this; exact this.symm
                  subst hy6
                  have hs := Lib.hid (pB_false (p := OkPos R xs bss) fun h => rowTo_bad RT.out HGY.out hlz (h.rows k bs HGB.out))
                  have pj := BelowOf.cell hc6
                  have e1 : decide (0 < i) = true := decide_eq_true (by omega)
                  have e1' : (0 : Int) < (i : Int) := by omega
                  have e2 : decide ((m : Int) ≤ z) = true := decide_eq_true hlz
                  have e5 : IntKind.i64.wrap ((i : Int) - 1) = (j2 : Int) := (IntWalk.i64_in _ (by omega)).trans (by omega)
                  have e6 : (j2 : Int) < (n2 : Int) := by omega
                  clear he hg6 hc6 hj2
                  go_wp2
                  refine wp_region_quiet_below (by kernel_rfl) (by kernel_rfl) ?_
                  repeat (go_big_quiet_step ((go_at_call 114; exact Calls.below_of (in_yes_bel _ _ _ _ hy0 hyk))))
                  refine wpQuiet_nil ?_
                  intro wq hw'
                  obtain ⟨⟨wv, hbq⟩, hw''⟩ := hw'
                  subst hw''
                  go_wp2
                  go_ret
                  exact ⟨ret_bool hs.out.symm, (BX3.out.go hbq).below⟩
                have RT2 := Lib.hid (rowTo_step RT.out HGY.out (by omega) HEL.out)
                have hcase2 : (i = 0) ∨ ∃ j, i = j + 1 := by rcases Nat.eq_zero_or_pos i with h | h; exact .inl h; exact .inr ⟨i - 1, by omega⟩
                rcases hcase2 with hz | ⟨j2, hj2⟩
                · have e1 : decide (0 < i) = false := decide_eq_false (by omega)
                  have e1' : ¬ 0 < i := by omega
                  clear hz
                  go_wp2
                  refine wp_region_quiet_below (by kernel_rfl) (by kernel_rfl) ?_
                  repeat (go_big_quiet_step ((go_at_call 114; exact Calls.below_of (in_yes_bel _ _ _ _ hy0 hyk))))
                  refine wpQuiet_nil ?_
                  intro wq hw'
                  obtain ⟨⟨wv, hbq⟩, hw''⟩ := hw'
                  subst hw''
                  clear e1 e1'
                  clear iw gd pm p0 p1 p2 pb pk hqy hcy hq0 hq1 hq2 hqb
                  have BX4 := Lib.hid (BX3.out.go hbq)
                  have BEL4 := Lib.hid (BEL.out.trans (hbq.mono BEL.out.size))
                  have C4 := Lib.hid (cell_be C3.out hbq)
                  have R4 := Lib.hid (R3.out.keep hbq)
                  clear hbq
                  obtain ⟨b7, o7, A7, c7, r, he, hg7, hc7, hr7, hm7⟩ := (HB.out.keep BX4.out.below).row (k := m) (by rw [HY.out]; omega)
                  obtain ⟨rfl, rfl⟩ : b3 = b7 ∧ o3 = o7 := by simpa using he
                  obtain ⟨n7, hl7⟩ : ∃ l, r.length = l := ⟨_, rfl⟩
                  have hlr7 := HR.out r (List.mem_of_getElem? hg7)
                  rw [hl7] at hc7 hm7 hlr7
                  have HL7 := Lib.hid hl7
                  have HG7 := Lib.hid hg7
                  have HR7 := Lib.hid hr7
                  have HC7 := Lib.hid hc7
                  clear he hl7 hg7 hr7 hc7
                  obtain ⟨wp, rfl⟩ : ∃ wp : World, wp = wq := ⟨_, rfl⟩
                  go_wp2
                  go_loopw [6] (fun v wr => ∃ t : Nat, t ≤ n7 ∧ v = .int .i64 t ∧ (∀ c ∈ r.take t, c ∈ bs) ∧ Below wp.heap.size wp wr) (fun v _ => n7 - (intOf v).toNat)
                  case atStart => exact ⟨0, Nat.zero_le _, rfl, by simp, Below.refl _ _⟩
                  case round =>
                    obtain ⟨t, ht, rfl, al, bel⟩ := hrel
                    have AL := Lib.hid al
                    have BX5 := Lib.hid (BX4.out.go bel)
                    have BEL5 := Lib.hid bel
                    have C5 := Lib.hid (cell_be C4.out bel)
                    have R5 := Lib.hid (R4.out.keep bel)
                    have D5 := Lib.hid (cell_be HC7.out bel)
                    have S5 := Lib.hid (HR7.out.keep bel)
                    clear al bel
                    have hq2 := BX5.out.cell2
                    have hqb := C5.out
                    have hqd := D5.out
                    by_cases htl : t < n7
                    · obtain ⟨b8, o8, u, rfl, hgu, hcu⟩ := S5.out.int (k := t) (by rw [HL7.out]; exact htl)
                      have HGU := Lib.hid hgu
                      have p2 := BelowOf.cell BX5.out.cell2
                      have pb := BelowOf.cell C5.out
                      have pd := BelowOf.cell D5.out
                      have pu := BelowOf.cell hcu
                      have htI : (t : Int) < (n7 : Int) := by omega
                      clear hgu
                      cases hin : decide (u ∈ bs)
                      · have hs := Lib.hid (pB_false (p := OkPos R xs bss) fun h => of_decide_eq_false hin (h.tr k bs HGB.out _ (List.mem_of_getElem? HGY.out) m r rfl HG7.out _ (List.mem_of_getElem? HGU.out)))
                        have HIN := Lib.hid hin
                        clear hin
                        go_wp2
                        refine wp_region_quiet_below (by kernel_rfl) (by kernel_rfl) ?_
                        repeat (go_big_quiet_step ((go_at_call 75; exact Calls.below_of (shas_bel _ HL2.out (R5.out.keep (BelowOf.h _)) (by omega) HIN.out))))
                        refine wpQuiet_nil ?_
                        intro wq hw'
                        obtain ⟨⟨wv, hbq⟩, hw''⟩ := hw'
                        subst hw''
                        go_wp2
                        go_ret
                        exact ⟨ret_bool hs.out.symm, (BX5.out.go hbq).below⟩
                      · have AL2 := Lib.hid (show ∀ c ∈ r.take (t + 1), c ∈ bs from fun c hc => by
                          rw [take_succ_of HGU.out] at hc
                          rcases List.mem_append.1 hc with h | h
                          · exact AL.out c h
                          · simp at h; subst h; exact of_decide_eq_true hin)
                        have HIN := Lib.hid hin
                        clear hin
                        go_wp2
                        refine wp_region_quiet_below (by kernel_rfl) (by kernel_rfl) ?_
                        repeat (go_big_quiet_step ((go_at_call 75; exact Calls.below_of (shas_bel _ HL2.out (R5.out.keep (BelowOf.h _)) (by omega) HIN.out))))
                        refine wpQuiet_nil ?_
                        intro wq hw'
                        obtain ⟨⟨wv, hbq⟩, hw''⟩ := hw'
                        subst hw''
                        have BEL6 := Lib.hid (BEL5.out.trans (hbq.mono BEL5.out.size))
                        clear hbq
                        go_wp2
                        go_roundw
                        case rel => exact ⟨t + 1, by omega, by go_num, AL2.out, BEL6.out⟩
                        case measure => simp [intOf]; omega
                    · have TR2 := Lib.hid (show ∀ d ∈ bs.take (i + 1), TrEl bss bs d from fun d hd => by
                        rw [take_succ_of HGY.out] at hd
                        rcases List.mem_append.1 hd with h | h
                        · exact TR.out d h
                        · simp at h
                          subst h
                          intro j' r' hj' hr' c hc
                          obtain rfl : m = j' := by omega
                          have h9 := HG7.out
                          rw [hr'] at h9
                          injection h9 with h9
                          subst h9
                          exact AL.out c (by rw [List.take_of_length_le (by rw [HL7.out]; omega)]; exact hc))
                      have BEL6 := Lib.hid (BEL4.out.trans (BEL5.out.mono BEL4.out.size))
                      go_wp2
                      go_roundw
                      case rel => exact ⟨i + 1, m, by omega, by go_num, RT2.out, TR2.out, BEL6.out⟩
                      case measure => simp [intOf]; omega
                · obtain ⟨b6, o6, y6, he, hg6, hc6⟩ := R3.out.int (k := j2) (by rw [HL2.out]; omega)
                  obtain ⟨rfl, rfl⟩ : b4 = b6 ∧ o4 = o6 := by simpa using he
                  have hy6 : z = y6 := by have := RT.out.last (by omega); rw [hj2] at this; simp [hg6] at this; exact this.symm
                  subst hy6
                  have pj := BelowOf.cell hc6
                  have e1 : decide (0 < i) = true := decide_eq_true (by omega)
                  have e1' : (0 : Int) < (i : Int) := by omega
                  have e2 : decide ((m : Int) ≤ z) = false := decide_eq_false hlz
                  have e5 : IntKind.i64.wrap ((i : Int) - 1) = (j2 : Int) := (IntWalk.i64_in _ (by omega)).trans (by omega)
                  have e6 : (j2 : Int) < (n2 : Int) := by omega
                  clear he hg6 hc6 hj2
                  go_wp2
                  refine wp_region_quiet_below (by kernel_rfl) (by kernel_rfl) ?_
                  repeat (go_big_quiet_step ((go_at_call 114; exact Calls.below_of (in_yes_bel _ _ _ _ hy0 hyk))))
                  refine wpQuiet_nil ?_
                  intro wq hw'
                  obtain ⟨⟨wv, hbq⟩, hw''⟩ := hw'
                  subst hw''
                  clear e1 e1' e2 e5 e6 pj
                  clear iw gd pm p0 p1 p2 pb pk hqy hcy hq0 hq1 hq2 hqb
                  have BX4 := Lib.hid (BX3.out.go hbq)
                  have BEL4 := Lib.hid (BEL.out.trans (hbq.mono BEL.out.size))
                  have C4 := Lib.hid (cell_be C3.out hbq)
                  have R4 := Lib.hid (R3.out.keep hbq)
                  clear hbq
                  obtain ⟨b7, o7, A7, c7, r, he, hg7, hc7, hr7, hm7⟩ := (HB.out.keep BX4.out.below).row (k := m) (by rw [HY.out]; omega)
                  obtain ⟨rfl, rfl⟩ : b3 = b7 ∧ o3 = o7 := by simpa using he
                  obtain ⟨n7, hl7⟩ : ∃ l, r.length = l := ⟨_, rfl⟩
                  have hlr7 := HR.out r (List.mem_of_getElem? hg7)
                  rw [hl7] at hc7 hm7 hlr7
                  have HL7 := Lib.hid hl7
                  have HG7 := Lib.hid hg7
                  have HR7 := Lib.hid hr7
                  have HC7 := Lib.hid hc7
                  clear he hl7 hg7 hr7 hc7
                  obtain ⟨wp, rfl⟩ : ∃ wp : World, wp = wq := ⟨_, rfl⟩
                  go_wp2
                  go_loopw [6] (fun v wr => ∃ t : Nat, t ≤ n7 ∧ v = .int .i64 t ∧ (∀ c ∈ r.take t, c ∈ bs) ∧ Below wp.heap.size wp wr) (fun v _ => n7 - (intOf v).toNat)
                  case atStart => exact ⟨0, Nat.zero_le _, rfl, by simp, Below.refl _ _⟩
                  case round =>
                    obtain ⟨t, ht, rfl, al, bel⟩ := hrel
                    have AL := Lib.hid al
                    have BX5 := Lib.hid (BX4.out.go bel)
                    have BEL5 := Lib.hid bel
                    have C5 := Lib.hid (cell_be C4.out bel)
                    have R5 := Lib.hid (R4.out.keep bel)
                    have D5 := Lib.hid (cell_be HC7.out bel)
                    have S5 := Lib.hid (HR7.out.keep bel)
                    clear al bel
                    have hq2 := BX5.out.cell2
                    have hqb := C5.out
                    have hqd := D5.out
                    by_cases htl : t < n7
                    · obtain ⟨b8, o8, u, rfl, hgu, hcu⟩ := S5.out.int (k := t) (by rw [HL7.out]; exact htl)
                      have HGU := Lib.hid hgu
                      have p2 := BelowOf.cell BX5.out.cell2
                      have pb := BelowOf.cell C5.out
                      have pd := BelowOf.cell D5.out
                      have pu := BelowOf.cell hcu
                      have htI : (t : Int) < (n7 : Int) := by omega
                      clear hgu
                      cases hin : decide (u ∈ bs)
                      · have hs := Lib.hid (pB_false (p := OkPos R xs bss) fun h => of_decide_eq_false hin (h.tr k bs HGB.out _ (List.mem_of_getElem? HGY.out) m r rfl HG7.out _ (List.mem_of_getElem? HGU.out)))
                        have HIN := Lib.hid hin
                        clear hin
                        go_wp2
                        refine wp_region_quiet_below (by kernel_rfl) (by kernel_rfl) ?_
                        repeat (go_big_quiet_step ((go_at_call 75; exact Calls.below_of (shas_bel _ HL2.out (R5.out.keep (BelowOf.h _)) (by omega) HIN.out))))
                        refine wpQuiet_nil ?_
                        intro wq hw'
                        obtain ⟨⟨wv, hbq⟩, hw''⟩ := hw'
                        subst hw''
                        go_wp2
                        go_ret
                        exact ⟨ret_bool hs.out.symm, (BX5.out.go hbq).below⟩
                      · have AL2 := Lib.hid (show ∀ c ∈ r.take (t + 1), c ∈ bs from fun c hc => by
                          rw [take_succ_of HGU.out] at hc
                          rcases List.mem_append.1 hc with h | h
                          · exact AL.out c h
                          · simp at h; subst h; exact of_decide_eq_true hin)
                        have HIN := Lib.hid hin
                        clear hin
                        go_wp2
                        refine wp_region_quiet_below (by kernel_rfl) (by kernel_rfl) ?_
                        repeat (go_big_quiet_step ((go_at_call 75; exact Calls.below_of (shas_bel _ HL2.out (R5.out.keep (BelowOf.h _)) (by omega) HIN.out))))
                        refine wpQuiet_nil ?_
                        intro wq hw'
                        obtain ⟨⟨wv, hbq⟩, hw''⟩ := hw'
                        subst hw''
                        have BEL6 := Lib.hid (BEL5.out.trans (hbq.mono BEL5.out.size))
                        clear hbq
                        go_wp2
                        go_roundw
                        case rel => exact ⟨t + 1, by omega, by go_num, AL2.out, BEL6.out⟩
                        case measure => simp [intOf]; omega
                    · have TR2 := Lib.hid (show ∀ d ∈ bs.take (i + 1), TrEl bss bs d from fun d hd => by
                        rw [take_succ_of HGY.out] at hd
                        rcases List.mem_append.1 hd with h | h
                        · exact TR.out d h
                        · simp at h
                          subst h
                          intro j' r' hj' hr' c hc
                          obtain rfl : m = j' := by omega
                          have h9 := HG7.out
                          rw [hr'] at h9
                          injection h9 with h9
                          subst h9
                          exact AL.out c (by rw [List.take_of_length_le (by rw [HL7.out]; omega)]; exact hc))
                      have BEL6 := Lib.hid (BEL4.out.trans (BEL5.out.mono BEL4.out.size))
                      go_wp2
                      go_roundw
                      case rel => exact ⟨i + 1, m, by omega, by go_num, RT2.out, TR2.out, BEL6.out⟩
                      case measure => simp [intOf]; omega
              · have PT2 := Lib.hid (show PosTo R xs bss (k + 1) x from ⟨RK2.out, fun i' b' he hb' => by
                    rcases Nat.lt_succ_iff_lt_or_eq.1 he with h | rfl
                    · exact PT.out.row i' b' h hb'
                    · have h9 := HGB.out
                      rw [hb'] at h9
                      injection h9 with h9
                      subst h9
                      exact rowTo_all RT.out (by rw [HL2.out]; omega), fun i' b' he hb' => by
                    rcases Nat.lt_succ_iff_lt_or_eq.1 he with h | rfl
                    · exact PT.out.tr i' b' h hb'
                    · have h9 := HGB.out
                      rw [hb'] at h9
                      injection h9 with h9
                      subst h9
                      intro d hd
                      exact TR.out d (by rw [List.take_of_length_le (by rw [HL2.out]; omega)]; exact hd)⟩)
                clear iw
                go_wp2
                go_roundw
                case rel => exact ⟨k + 1, x, by omega, by go_num, PT2.out, BX3.out⟩
                case measure => simp [intOf]; omega
      · have hs := Lib.hid (pB_true (p := OkPos R xs bss) ⟨HY.out.symm ▸ rkTo_all PT.out.rk (by rw [HX.out]; omega) hR1 hR5 (by rw [HX.out]; omega) HX.out.symm,
          fun e b hb => PT.out.row e b (by have := (List.getElem?_eq_some_iff.1 hb).1; rw [HY.out] at this; omega) hb, fun e b hb => PT.out.tr e b (by have := (List.getElem?_eq_some_iff.1 hb).1; rw [HY.out] at this; omega) hb⟩)
        go_wp2
        go_ret
        exact ⟨ret_bool hs.out.symm, BX.out.below⟩
  · have hs := Lib.hid (pB_false (p := OkPos R xs bss) fun h => by have := h.ranks.len; omega)
    have hne : ((M : Int) != (N : Int)) = true := by rw [bne_iff_ne]; omega
    clear hx ha hy hb hr hMN
    go_enter Try.func74, Try.ntmps74
    go_wp2_with fail
    refine (in_yes _ _ _ _ hR1 hR5).mono ?_
    rintro e w' ⟨rfl, rfl⟩
    go_wp2
    go_ret
    exact ⟨ret_bool hs.out.symm, BX0.out.below⟩
end Go.Proofs.Ytnfngfpfihkclaa
