import Derived.Test.YtjkddoiacifhpaaWm4
import Derived.Test.YtjkddoiacifhpaaL4
namespace Go.Proofs.Ytjkddoiacifhpaa
open Go.RowKit

theorem perm_val {A : Option Addr} {c : Nat} {xs : List Int} {n : Nat} {r : Bool} (w : World) (hx : xs.length = n) (ha : Rd w A (ints xs)) (hn : n ≤ 1048576) (hs : okP xs = r) :
    Calls Try.prog 156 #[.slice A n c] w fun e w' => e = .returned (.bool r) ∧ Below w.heap.size w w' :=
  (perm_any w hx ha hn).mono fun _ _ ⟨he, hb⟩ => ⟨by rw [he, hs], hb⟩
theorem free_val {A : Option Addr} {c : Nat} {xs : List Int} {n : Nat} {r : Bool} (w : World) (hx : xs.length = n) (ha : Rd w A (ints xs)) (hn : n ≤ 1048576) (hp : okP xs = true) (hs : freeP xs = r) :
    Calls Try.prog 175 #[.slice A n c] w fun e w' => e = .returned (.bool r) ∧ Below w.heap.size w w' :=
  (sfree_loop w hx ha hn hp).mono fun _ _ ⟨he, hb⟩ => ⟨by rw [he, hs], hb ▸ Below.refl _ _⟩

/-- The pairs gone through by the model: all with the lesser rank below i, those of i with the greater one below k, and the flags below f of the pair of both. -/
def SqI (xss : List (List Int)) (n i k : Nat) : Prop := ∀ (a b : Nat) (p q : List Int), a + 2 ≤ b → (a < i ∨ (a = i ∧ b < k)) → xss[a]? = some p → xss[b]? = some q → SqOk n p q
theorem sqI_next {xss : List (List Int)} {n i k : Nat} (h : SqI xss n i k) (hk : xss.length ≤ k) : SqI xss n (i + 1) 0 := by
  intro a b p q hab hc hp hq
  have := (List.getElem?_eq_some_iff.1 hq).1
  exact h a b p q hab (by omega) hp hq
theorem sqI_step {xss : List (List Int)} {n i k : Nat} {p q : List Int} (h : SqI xss n i k) (hp : xss[i]? = some p) (hq : xss[k]? = some q) (hs : SqOk n p q) : SqI xss n i (k + 1) := by
  intro a b p' q' hab hc hp' hq'
  by_cases h1 : a = i ∧ b = k
  · obtain ⟨rfl, rfl⟩ := h1
    rw [hp] at hp'; rw [hq] at hq'
    injection hp' with e1; injection hq' with e2
    subst e1; subst e2
    exact hs
  · exact h a b p' q' hab (by omega) hp' hq'
theorem sqI_start {xss : List (List Int)} {n i : Nat} (h : SqI xss n i 0) : SqI xss n i (i + 2) := by
  intro a b p q hab hc hp hq
  exact h a b p q hab (by omega) hp hq
theorem sqI_all {xss : List (List Int)} {n i : Nat} (h : SqI xss n i 0) (hk : xss.length ≤ i) : SqAll xss n := by
  intro a b p q hab hp hq
  have := (List.getElem?_eq_some_iff.1 hp).1
  exact h a b p q hab (by omega) hp hq

set_option maxHeartbeats 6400000 in
set_option maxRecDepth 8000 in
theorem sIs_any {A : Option Addr} {c N : Nat} {xss : List (List Int)} (w : World) (hx : xss.length = N) (ha : RdSS w A xss) (hN : N ≤ 1048576) (hr : ∀ xs ∈ xss, (xs.length : Int) ≤ 1048576) :
    Calls Try.prog 122 #[.agg #[.slice A N c]] w fun e w' => e = .returned (.bool (okMan xss)) ∧ Below w.heap.size w w' := by
  have HX := Lib.hid hx
  have HA := Lib.hid ha
  have HR := Lib.hid hr
  by_cases h1 : N < 1
  · have hs := Lib.hid (okMan_false (xss := xss) fun h => by have := h.r1; omega)
    clear hx ha hr
    go_enter Try.func122, Try.ntmps122
    go_wp2
    go_ret
    exact ⟨ret_bool hs.out.symm, below1 w _⟩
  by_cases h5 : 5 < N
  · have hs := Lib.hid (okMan_false (xss := xss) fun h => by have := h.r5; omega)
    clear hx ha hr
    go_enter Try.func122, Try.ntmps122
    go_wp2
    go_ret
    exact ⟨ret_bool hs.out.symm, below1 w _⟩
  obtain ⟨b, o, A0, c0, xs0, rfl, hg0, hc0, hrd0, hm0⟩ := ha.row (k := 0) (by omega)
  obtain ⟨n, hn⟩ : ∃ n, xs0.length = n := ⟨_, rfl⟩
  rw [hn, Nat.add_zero] at hc0
  rw [hn] at hm0
  have hfl := fl_of hg0
  rw [hn] at hfl
  have hn1 := hr xs0 (List.mem_of_getElem? hg0)
  rw [hn] at hn1
  have HFL := Lib.hid hfl
  have HC0 := Lib.hid hc0
  have hpos : 0 < N := by omega
  have hposI : (0 : Int) < (N : Int) := by omega
  have hlt0 := World.block_lt_of_cell? w _ hc0
  clear hrd0 hg0 hn
  by_cases h2 : n < 2
  · have hs := Lib.hid (okMan_false (xss := xss) fun h => by have := h.f2; omega)
    clear hx ha hr hfl
    go_enter Try.func122, Try.ntmps122
    go_wp2
    go_ret
    exact ⟨ret_bool hs.out.symm, below1 w _⟩
  by_cases h4 : 400 < n
  · have hs := Lib.hid (okMan_false (xss := xss) fun h => by have := h.f4; omega)
    clear hx ha hr hfl
    go_enter Try.func122, Try.ntmps122
    go_wp2
    go_ret
    exact ⟨ret_bool hs.out.symm, below1 w _⟩
  clear hx ha hr hfl
  go_enter Try.func122, Try.ntmps122
  go_wp2
  clear hc0 hlt0
  go_loopw [4] (fun i wr => ∃ k : Nat, k ≤ N ∧ i = .int .i64 k ∧ rowsTo xss n k ∧ Bx w wr (.slice (some ⟨b, o, none⟩) N c) 51) (fun i _ => N - (intOf i).toNat)
  case atStart => exact ⟨0, Nat.zero_le _, rfl, by simp [rowsTo], Bx.start _ _ _⟩
  case round =>
    obtain ⟨k, hk, rfl, rt, bx⟩ := hrel
    have RT := Lib.hid rt
    have BX := Lib.hid bx
    clear rt bx
    by_cases hlt : k < N
    · obtain ⟨b', o', A', c', xs, he, hg, hc, hrd, hm⟩ := (HA.out.keep BX.out.below).row (k := k) (by rw [HX.out]; exact hlt)
      obtain ⟨rfl, rfl⟩ : b = b' ∧ o = o' := by simpa using he
      obtain ⟨l, hl⟩ : ∃ l, xs.length = l := ⟨_, rfl⟩
      have hlr := HR.out xs (List.mem_of_getElem? hg)
      rw [hl] at hc hm hlr
      have HL := Lib.hid hl
      have HG := Lib.hid hg
      have HRD := Lib.hid hrd
      have hbc := BelowOf.cell BX.out.cell
      have hc0 := BelowOf.cell (cell_be HC0.out BX.out.below)
      have hck := BelowOf.cell hc
      have hkI : (k : Int) < (N : Int) := by omega
      have hkI0 : (0 : Int) ≤ (k : Int) := by omega
      have hlb : l ≤ 1048576 := by omega
      clear he hl hg hrd hc
      by_cases hln : l = n
      · subst hln
        have hne : ((l : Int) != (l : Int)) = false := by simp
        cases hp : okP xs
        · have hs := Lib.hid (okMan_false (xss := xss) fun h => by have := (h.row xs (List.mem_of_getElem? HG.out)).2.1; rw [hp] at this; cases this)
          have HP := Lib.hid hp
          clear hp
          go_wp2_with fail
          refine wp_region_quiet_below (by kernel_rfl) (by kernel_rfl) ?_
          repeat (go_big_quiet_step ((go_at_call 156; exact Calls.below_of (perm_val _ HL.out (HRD.out.keep (BelowOf.h _)) hlb HP.out))))
          refine wpQuiet_nil ?_
          intro _ hw'
          obtain ⟨⟨wq, hbq⟩, hw''⟩ := hw'
          subst hw''
          go_wp2
          go_ret
          exact ⟨ret_bool hs.out.symm, (BX.out.go hbq).below⟩
        · have HP := Lib.hid hp
          cases hf : freeP xs
          · have hs := Lib.hid (okMan_false (xss := xss) fun h => by have := (h.row xs (List.mem_of_getElem? HG.out)).2.2; rw [hf] at this; cases this)
            have HF := Lib.hid hf
            clear hp hf
            go_wp2_with fail
            refine wp_region_quiet_below (by kernel_rfl) (by kernel_rfl) ?_
            repeat (go_big_quiet_step ((first | (go_at_call 156; exact Calls.below_of (perm_val _ HL.out (HRD.out.keep (BelowOf.h _)) hlb HP.out)) | (go_at_call 175; exact Calls.below_of (free_val _ HL.out (HRD.out.keep (BelowOf.h _)) hlb HP.out HF.out)))))
            refine wpQuiet_nil ?_
            intro _ hw'
            obtain ⟨⟨wq, hbq⟩, hw''⟩ := hw'
            subst hw''
            go_wp2
            go_ret
            exact ⟨ret_bool hs.out.symm, (BX.out.go hbq).below⟩
          · have RT2 := Lib.hid (rowsTo_succ RT.out HG.out HL.out (okFree_iff.2 ⟨hp, hf⟩))
            have HF := Lib.hid hf
            clear hp hf
            go_wp2_with fail
            refine wp_region_quiet_below (by kernel_rfl) (by kernel_rfl) ?_
            repeat (go_big_quiet_step ((first | (go_at_call 156; exact Calls.below_of (perm_val _ HL.out (HRD.out.keep (BelowOf.h _)) hlb HP.out)) | (go_at_call 175; exact Calls.below_of (free_val _ HL.out (HRD.out.keep (BelowOf.h _)) hlb HP.out HF.out)))))
            refine wpQuiet_nil ?_
            intro _ hw'
            obtain ⟨⟨wq, hbq⟩, hw''⟩ := hw'
            subst hw''
            have BX2 := Lib.hid (BX.out.go hbq)
            clear hbq
            go_wp2
            go_roundw
            case rel => exact ⟨k + 1, by omega, by go_num, RT2.out, BX2.out⟩
            case measure => simp [intOf]; omega
      · have hne : ((l : Int) != (n : Int)) = true := by rw [bne_iff_ne]; omega
        have hs := Lib.hid (okMan_false (xss := xss) fun h => by have h3 := (h.row xs (List.mem_of_getElem? HG.out)).1; have h4 := HL.out; have h5 := HFL.out; omega)
        clear hln
        go_wp2_with fail
        refine wp_region_quiet_below (by kernel_rfl) (by kernel_rfl) ?_
        repeat (go_big_quiet_step ((fail)))
        refine wpQuiet_nil ?_
        intro _ hw'
        obtain ⟨⟨wq, hbq⟩, hw''⟩ := hw'
        subst hw''
        go_wp2
        go_ret
        exact ⟨ret_bool hs.out.symm, (BX.out.go hbq).below⟩
    · have hsz : SizesOk xss := ⟨by rw [HX.out]; omega, by rw [HX.out]; omega, by rw [HFL.out]; omega, by rw [HFL.out]; omega, by rw [HFL.out]; exact rowsTo_all RT.out (by rw [HX.out]; omega)⟩
      have hsys := sizes_sys hsz
      rw [HFL.out] at hsys
      have HSZ := Lib.hid hsz
      have HSY := Lib.hid hsys
      clear hsz hsys
      go_wp2
      clear hposI
      go_loopw [5] (fun i wr => ∃ k : Nat, k ≤ N ∧ i = .int .i64 k ∧ SqI xss n k 0 ∧ Bx w wr (.slice (some ⟨b, o, none⟩) N c) 51) (fun i _ => N - (intOf i).toNat)
      case atStart => exact ⟨0, Nat.zero_le _, rfl, fun a b p q h1 h2 => by omega, BX.out⟩
      case round =>
        obtain ⟨i, hi, rfl, sq, bx⟩ := hrel
        have SQ := Lib.hid sq
        have BX1 := Lib.hid bx
        clear sq bx
        by_cases hiN : i < N
        · have S0 := Lib.hid (sqI_start SQ.out)
          go_wp2
          go_loopw [6] (fun v wr => ∃ j : Nat, j ≤ N + 2 ∧ v = .int .i64 j ∧ i + 2 ≤ j ∧ SqI xss n i j ∧ Bx w wr (.slice (some ⟨b, o, none⟩) N c) 51) (fun v _ => N + 2 - (intOf v).toNat)
          case atStart => exact ⟨i + 2, by omega, by go_num, by omega, S0.out, BX1.out⟩
          case round =>
            obtain ⟨j, hj, rfl, hij, sq, bx⟩ := hrel
            have SQ2 := Lib.hid sq
            have BX2 := Lib.hid bx
            clear sq bx
            by_cases hjN : j < N
            · obtain ⟨b1, o1, A1, c1, p, he, hg1, hc1, hrd1, hm1⟩ := (HA.out.keep BX2.out.below).row (k := i) (by rw [HX.out]; omega)
              obtain ⟨rfl, rfl⟩ : b = b1 ∧ o = o1 := by simpa using he
              obtain ⟨b1, o1, A2, c2, q, he, hg2, hc2, hrd2, hm2⟩ := (HA.out.keep BX2.out.below).row (k := j) (by rw [HX.out]; omega)
              obtain ⟨rfl, rfl⟩ : b = b1 ∧ o = o1 := by simpa using he
              have l1 := sys_len HSY.out hg1
              have l2 := sys_len HSY.out hg2
              have k1 : p.length = n := by omega
              have k2 : q.length = n := by omega
              rw [k1] at hc1
              rw [k2] at hc2
              have OK1 := Lib.hid ((sys_parts HSY.out).2.2.2 p (List.mem_of_getElem? hg1)).2
              have OK2 := Lib.hid ((sys_parts HSY.out).2.2.2 q (List.mem_of_getElem? hg2)).2
              have K1 := Lib.hid k1
              have K2 := Lib.hid k2
              have R1 := Lib.hid hrd1
              have R2 := Lib.hid hrd2
              have G1 := Lib.hid hg1
              have G2 := Lib.hid hg2
              have C1 := Lib.hid hc1
              have C2 := Lib.hid hc2
              have hiI : (i : Int) < (N : Int) := by omega
              have hjI : (j : Int) < (N : Int) := by omega
              clear he k1 k2 l1 l2 hrd1 hrd2 hg1 hg2 hc1 hc2
              obtain ⟨wo, rfl⟩ : ∃ wo : World, wo = wr := ⟨_, rfl⟩
              go_wp2
              go_loopw [7] (fun v wi => ∃ f : Nat, f ≤ n ∧ v = .int .i64 f ∧ (∀ f' : Nat, f' < f → fz p f' ≠ fz q f' ∧ fz p (fz q f') = fz q (fz p f')) ∧ Below wo.heap.size wo wi) (fun v _ => n - (intOf v).toNat)
              case atStart => exact ⟨0, Nat.zero_le _, rfl, fun f h => absurd h (by omega), Below.refl _ _⟩
              case round =>
                obtain ⟨f, hf, rfl, hall, bel⟩ := hrel
                have HALL := Lib.hid hall
                have BEL := Lib.hid bel
                clear hall bel
                have hrow0 := cell_be (cell_be HC0.out BX2.out.below) BEL.out
                have hbox0 := (BX2.out.go BEL.out).cell
                by_cases hfn : f < n
                · obtain ⟨b1, o1, x, rfl, hgx, hcx⟩ := (R1.out.keep BEL.out).int (k := f) (by rw [K1.out]; exact hfn)
                  obtain ⟨b2, o2, y, rfl, hgy, hcy⟩ := (R2.out.keep BEL.out).int (k := f) (by rw [K2.out]; exact hfn)
                  obtain ⟨x, rfl, hxn⟩ := okP_at OK1.out K1.out hgx
                  obtain ⟨y, rfl, hyn⟩ := okP_at OK2.out K2.out hgy
                  obtain ⟨b', o', u, he, hgu, hcu⟩ := (R1.out.keep BEL.out).int (k := y) (by rw [K1.out]; exact hyn)
                  obtain ⟨rfl, rfl⟩ : b1 = b' ∧ o1 = o' := by simpa using he
                  obtain ⟨b', o', v, he2, hgv, hcv⟩ := (R2.out.keep BEL.out).int (k := x) (by rw [K2.out]; exact hxn)
                  obtain ⟨rfl, rfl⟩ : b2 = b' ∧ o2 = o' := by simpa using he2
                  have FX := Lib.hid (fz_at hgx)
                  have FY := Lib.hid (fz_at hgy)
                  have FU := Lib.hid (fz_at hgu)
                  have FV := Lib.hid (fz_at hgv)
                  have hbc := BelowOf.cell hbox0
                  have hc0 := BelowOf.cell hrow0
                  have hr1 := BelowOf.cell (cell_be C1.out BEL.out)
                  have hr2 := BelowOf.cell (cell_be C2.out BEL.out)
                  have hx' := BelowOf.cell hcx
                  have hy' := BelowOf.cell hcy
                  have hu' := BelowOf.cell hcu
                  have hv' := BelowOf.cell hcv
                  have hfI : (f : Int) < (n : Int) := by omega
                  have hxI : (x : Int) < (n : Int) := by omega
                  have hyI : (y : Int) < (n : Int) := by omega
                  clear hgx hgy hgu hgv he he2 hcx hcy hcu hcv
                  by_cases h1 : v = u
                  · subst h1
                    have hd : (v != v) = false := by simp
                    by_cases h2 : x = y
                    · subst h2
                      have hd2 : ((x : Int) == (x : Int)) = true := by simp
                      have hs := Lib.hid (okMan_false (xss := xss) fun h => (h.sq i j p q hij G1.out G2.out f (by rw [HFL.out]; exact hfn)).1 (by rw [FX.out, FY.out]))
                      go_wp2_with fail
                      refine wp_region_quiet_below (by kernel_rfl) (by kernel_rfl) ?_
                      repeat (go_big_quiet_step ((fail)))
                      refine wpQuiet_nil ?_
                      intro _ hw'
                      obtain ⟨⟨wq, hbq⟩, hw''⟩ := hw'
                      subst hw''
                      go_wp2
                      go_ret
                      exact ⟨ret_bool hs.out.symm, ((BX2.out.go BEL.out).go hbq).below⟩
                    · have hd2 : ((x : Int) == (y : Int)) = false := by rw [beq_eq_false_iff_ne]; omega
                      have HS2 := Lib.hid (show ∀ f' : Nat, f' < f + 1 → fz p f' ≠ fz q f' ∧ fz p (fz q f') = fz q (fz p f') from fun f' hf' => by
                        rcases Nat.lt_succ_iff_lt_or_eq.1 hf' with h | rfl
                        · exact HALL.out f' h
                        · exact ⟨by rw [FX.out, FY.out]; omega, by rw [FX.out, FY.out, FU.out, FV.out]⟩)
                      clear h2
                      go_wp2_with fail
                      refine wp_region_quiet_below (by kernel_rfl) (by kernel_rfl) ?_
                      repeat (go_big_quiet_step ((fail)))
                      refine wpQuiet_nil ?_
                      intro _ hw'
                      obtain ⟨⟨wq, hbq⟩, hw''⟩ := hw'
                      subst hw''
                      have B3 := Lib.hid (BEL.out.trans (hbq.mono BEL.out.size))
                      clear hbq
                      go_wp2
                      go_roundw
                      case rel => exact ⟨f + 1, by omega, by go_num, HS2.out, B3.out⟩
                      case measure => simp [intOf]; omega
                  · have hd : (v != u) = true := by rw [bne_iff_ne]; exact h1
                    have hs := Lib.hid (okMan_false (xss := xss) fun h => h1 (by have := (h.sq i j p q hij G1.out G2.out f (by rw [HFL.out]; exact hfn)).2; rw [FX.out, FY.out, FU.out, FV.out] at this; exact this.symm))
                    clear h1
                    go_wp2_with fail
                    refine wp_region_quiet_below (by kernel_rfl) (by kernel_rfl) ?_
                    repeat (go_big_quiet_step ((fail)))
                    refine wpQuiet_nil ?_
                    intro _ hw'
                    obtain ⟨⟨wq, hbq⟩, hw''⟩ := hw'
                    subst hw''
                    go_wp2
                    go_ret
                    exact ⟨ret_bool hs.out.symm, ((BX2.out.go BEL.out).go hbq).below⟩
                · obtain rfl : f = n := by omega
                  have S3 := Lib.hid (sqI_step SQ2.out G1.out G2.out HALL.out)
                  have BX3 := Lib.hid (BX2.out.go BEL.out)
                  go_wp2
                  go_roundw
                  case rel => exact ⟨j + 1, by omega, by go_num, by omega, S3.out, BX3.out⟩
                  case measure => simp [intOf]; omega
            · have S3 := Lib.hid (sqI_next SQ2.out (by rw [HX.out]; omega))
              go_wp2
              go_roundw
              case rel => exact ⟨i + 1, by omega, by go_num, S3.out, BX2.out⟩
              case measure => simp [intOf]; omega
        · have SA := Lib.hid (sqI_all SQ.out (by rw [HX.out]; omega))
          obtain ⟨m, hm⟩ : ∃ m, (orbL xss n 0).length = m := ⟨_, rfl⟩
          have ho := Lib.hid (show okMan xss = decide (m = n) from by
            by_cases h : m = n
            · rw [decide_eq_true h]; exact okMan_true (man_iff.2 ⟨HSZ.out, by rw [HFL.out]; exact SA.out, by rw [HFL.out, hm, h]⟩)
            · rw [decide_eq_false h]; exact okMan_false fun h2 => h (by have := (man_iff.1 h2).2.2; rw [HFL.out, hm] at this; exact this))
          have HM := Lib.hid hm
          have hz : 0 < n := by omega
          have hposI : (0 : Int) < (N : Int) := by omega
          have HRD := Lib.hid (HA.out.keep BX1.out.below)
          have HB := Lib.hid BX1.out.below
          have hbc := BX1.out.cell
          have hrow0 := cell_be HC0.out BX1.out.below
          clear hm
          go_wp2_with fail
          go_region_held3 (fun w' => Below wr.heap.size wr w' ∧ w'.cell? ⟨w.heap.size, 0, none⟩ = some (.slice (some ⟨b, o, none⟩) N c) ∧ w'.cell? ⟨b, o, none⟩ = some (.slice A0 n c0)) (first | (exact ⟨below_drewN (Below.refl _ _) 1, hbc, hrow0⟩) | (exact q))
            (first
              | (go_at_call 164
                 refine (sorb_any _ HX.out (rd_s3 HRD.out (by assumption)) hN HSY.out hz).mono ?_
                 rintro e w' ⟨A', c', rfl, own, bel⟩
                 have q := s3_go (by assumption) bel))
          go_wp2
          go_ret
          refine ⟨ret_bool ?_, HB.out.trans (q.1.mono HB.out.size)⟩
          rw [ho.out, HM.out]
          exact beq_nat m n
end Go.Proofs.Ytjkddoiacifhpaa
