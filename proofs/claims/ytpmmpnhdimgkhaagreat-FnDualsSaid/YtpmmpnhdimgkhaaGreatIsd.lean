/- impl.hasLeastFormOf, IsSelfDual, IsSelfPetrie. -/
import Derived.Test.YtpmmpnhdimgkhaaGreatIox
import Derived.Test.YtpmmpnhdimgkhaaGreatL9
import Derived.Test.YtpmmpnhdimgkhaaGreatTro
namespace Go.Proofs.YtpmmpnhdimgkhaaGreat
open Go.RowKit

theorem ileastM_any {A : Option Addr} {c N : Nat} {xss : List (List Int)} (w : World) (hm : okMan xss = true) (hx : xss.length = N) (ha : RdSS w A xss) :
    Calls Tryz.prog 54 #[.agg #[.slice A N c]] w fun e w' => ∃ A' c', e = .returned (.agg #[.slice A' N c']) ∧ OwnSS w' w.heap.size w'.heap.size 32 A' N c' (leaL xss) ∧ Below w.heap.size w w' := by
  have hman := okMan_iff.1 hm
  obtain ⟨b, o, A0, c0, rfl, hc0⟩ := man_row0 hman ha
  refine (ileast_any w hx ha hman.sys hc0 (hman.pos hx) (by have := hman.f2; omega) (fun q hq => hman.all hq)).mono ?_
  rintro e w' ⟨A', c', he, ho, hb⟩
  have hl : (lstTo xss (flN xss) (flN xss - 1)).length = N := by rw [lstTo_len, hx]
  rw [hl] at he ho
  exact ⟨A', c', he, ho, hb⟩
theorem cmpLL_iff (a b : List (List Int)) : cmpLL a b = 0 ↔ a = b := ⟨cmpLL_zero a b, fun h => h ▸ cmpLL_self a⟩

set_option maxHeartbeats 3200000 in
set_option maxRecDepth 8000 in
theorem ihlf_any {A A1 : Option Addr} {c c1 N k : Nat} {xss L : List (List Int)} {V : Bool} (w : World) (hm1 : okMan xss = true) (hm2 : okMan L = true) (hx : xss.length = N) (hk : L.length = k) (ha : RdSS w A xss) (hb : RdSS w A1 L) (hV : decide (leaL xss = leaL L) = V) :
    Calls Tryz.prog 30 #[.agg #[.slice A N c], .agg #[.slice A1 k c1]] w fun e w' => e = .returned (.bool V) ∧ Below w.heap.size w w' := by
  obtain ⟨q, hq⟩ : ∃ q, cmpLL (leaL xss) (leaL L) = q := ⟨_, rfl⟩
  have hV2 : decide (q = 0) = V := by rw [← hV, ← hq]; simp only [cmpLL_iff]
  have hN : N ≤ 1048576 := by have := (okMan_iff.1 hm1).r5; omega
  have hk6 : k ≤ 1048576 := by have := (okMan_iff.1 hm2).r5; omega
  have HX := Lib.hid hx
  have HK := Lib.hid hk
  have HQ := Lib.hid hq
  have HV := Lib.hid hV2
  have HA := Lib.hid ha
  have HM1 := Lib.hid hm1
  have HM2 := Lib.hid hm2
  have st1 := ((St.start w).addBlk #[.slice A N c] 26).addBlk #[.slice A1 k c1] 26
  simp at st1
  have Sd := Lib.hid (st1.go (below_drewN (Below.refl _ _) 1))
  have HAd := Lib.hid (ha.keep Sd.out.below)
  have HBd := Lib.hid (hb.keep Sd.out.below)
  have HB := Lib.hid hb
  have HLL := Lib.hid (show (leaL xss).length = N by rw [leaL_len, hx])
  have HLK := Lib.hid (show (leaL L).length = k by rw [leaL_len, hk])
  have x0 := (st1.blk (i := 0) rfl).cell (i := 0) rfl
  have y0 := (st1.blk (i := 1) rfl).cell (i := 0) rfl
  clear st1 hm1 hm2 hx hk ha hb hV hq hV2
  go_enter Tryz.func30, Tryz.ntmps30
  go_wp2
  go_region_law ((first
    | (refine step_call rfl 54 #[.tmp 5] #[26] (by rfl) Tryz.func54 (by rfl) (by rfl) #[.agg #[.slice A N c]] (by simp [Act.eval]) _ (ileastM_any _ HM1.out HX.out HAd.out) ?_
       rintro e wm ⟨Am, cm, rfl, ownm, belm⟩
       refine ⟨_, rfl, ?_⟩
       obtain ⟨valsm, stm⟩ := Sd.out.addRows belm ownm (Nat.le_refl _) (Nat.le_refl _)
       have Sm := Lib.hid stm
       have RmB := Lib.hid (HB.out.keep stm.below)
       have xm := (stm.blk (i := 0) rfl).cell (i := 0) rfl
       have ym := (stm.blk (i := 1) rfl).cell (i := 0) rfl
       clear stm ownm belm)
    | (refine step_call rfl 54 #[.tmp 7] #[26] (by rfl) Tryz.func54 (by rfl) (by rfl) #[.agg #[.slice A1 k c1]] (by simp [Act.eval]) _ (ileastM_any _ HM2.out HK.out HBd.out) ?_
       rintro e wk ⟨Ak, ck, rfl, ownk, belk⟩
       refine ⟨_, rfl, ?_⟩
       obtain ⟨valsk, stk⟩ := Sd.out.addRows belk ownk (Nat.le_refl _) (Nat.le_refl _)
       have Sk := Lib.hid stk
       have RkA := Lib.hid (HA.out.keep stk.below)
       have xk := (stk.blk (i := 0) rfl).cell (i := 0) rfl
       have yk := (stk.blk (i := 1) rfl).cell (i := 0) rfl
       clear stk ownk belk)
    | (refine step_call rfl 54 #[.tmp 7] #[26] (by rfl) Tryz.func54 (by rfl) (by rfl) #[.agg #[.slice A1 k c1]] (by simp [Act.eval]) _ (ileastM_any _ HM2.out HK.out RmB.out) ?_
       rintro e wk ⟨Ak, ck, rfl, ownk, belk⟩
       refine ⟨_, rfl, ?_⟩
       obtain ⟨valsk, stk⟩ := Sm.out.addRows belk ownk (Nat.le_refl _) (Nat.le_refl _)
       have Sz := Lib.hid stk
       have R1 := Lib.hid (ownSS_rd (stk.sep.ownSS (i := 2) rfl))
       have R2 := Lib.hid (ownSS_rd (stk.sep.ownSS (i := 3) rfl))
       clear stk ownk belk)
    | (refine step_call rfl 54 #[.tmp 5] #[26] (by rfl) Tryz.func54 (by rfl) (by rfl) #[.agg #[.slice A N c]] (by simp [Act.eval]) _ (ileastM_any _ HM1.out HX.out RkA.out) ?_
       rintro e wm ⟨Am, cm, rfl, ownm, belm⟩
       refine ⟨_, rfl, ?_⟩
       obtain ⟨valsm, stm⟩ := Sk.out.addRows belm ownm (Nat.le_refl _) (Nat.le_refl _)
       have Sz := Lib.hid stm
       have R1 := Lib.hid (ownSS_rd (stm.sep.ownSS (i := 3) rfl))
       have R2 := Lib.hid (ownSS_rd (stm.sep.ownSS (i := 2) rfl))
       clear stm ownm belm)
    | (refine step_call rfl 55 #[.tmp 6, .tmp 8] #[26, 26] (by rfl) Tryz.func55 (by rfl) (by rfl) #[.agg #[.slice Am N cm], .agg #[.slice Ak k ck]] (by simp [Act.eval]) _ (icmp_any _ HLL.out HLK.out R1.out R2.out hN hk6 (leaL_le HM1.out) (leaL_le HM2.out)) ?_
       rintro e wf ⟨rfl, belf⟩
       rw [HQ.out]
       refine ⟨_, rfl, ?_⟩
       have Sf := Lib.hid (Sz.out.go belf)
       clear belf)))
  all_goals
    go_wp2
    go_ret
    exact ⟨ret_bool (by rw [← HV.out]; first | rfl | simp), Sf.out.below⟩

set_option maxHeartbeats 1600000 in
set_option maxRecDepth 8000 in
theorem iIsSelfDual_any {A : Option Addr} {c N : Nat} {xss : List (List Int)} (w : World) (hx : xss.length = N) (ha : RdSS w A xss) (hN : N ≤ 1048576) (hr : ∀ xs ∈ xss, (xs.length : Int) ≤ 1048576) :
    Calls Tryz.prog 12 #[.agg #[.slice A N c]] w fun e w' => e = .returned (.tuple #[.bool (sduB xss), .int .i64 (duC xss)]) ∧ Below w.heap.size w w' := by
  have HX := Lib.hid hx
  have HA := Lib.hid ha
  have HR := Lib.hid hr
  have st0 := (St.start w).addBlk #[.slice A N c] 26
  have S0 := Lib.hid st0
  have hbc := (st0.blk (i := 0) rfl).cell (i := 0) rfl
  clear st0
  obtain ⟨L, hL⟩ : ∃ L, duR xss = L := ⟨_, rfl⟩
  obtain ⟨C, hC⟩ : ∃ C, duC xss = C := ⟨_, rfl⟩
  obtain ⟨V, hV⟩ : ∃ V, sduB xss = V := ⟨_, rfl⟩
  have hz : C = 0 → okMan xss = true ∧ okMan L = true := fun h => by
    cases ho : okMan xss
    · rw [← hC] at h
      simp [duC, ho] at h
    · exact ⟨rfl, by rw [← hL, duR, if_pos ho]; exact dual_man ho⟩
  have hV2 : V = decide (C = 0 ∧ leaL xss = leaL L) := by
    rw [← hV, ← hC, ← hL]
    cases ho : okMan xss
    · simp [sduB, duC, ho]
    · simp [sduB, duC, duR, ho]
  rw [hC, hV]
  obtain ⟨k, hk⟩ : ∃ k, L.length = k := ⟨_, rfl⟩
  have HL := Lib.hid hL
  have HC := Lib.hid hC
  have HK := Lib.hid hk
  have HZ := Lib.hid hz
  have HV := Lib.hid hV2
  clear hx ha hr hL hC hk hz hV hV2
  go_enter Tryz.func12, Tryz.ntmps12
  go_wp2_with fail
  refine (iDualOf_any _ HX.out (HA.out.keep S0.out.below) hN HR.out).mono ?_
  rintro e w1 ⟨A1, c1, rfl, own, bel⟩
  rw [HL.out, HK.out] at own
  rw [HL.out, HC.out, HK.out]
  obtain ⟨vals, st⟩ := S0.out.addRows bel own (Nat.le_refl _) (Nat.le_refl _)
  have st1 := st.addBlk #[.slice A1 k c1] 26
  have S1 := Lib.hid st1
  clear st own bel hbc
  have x0 := (st1.blk (i := 0) rfl).cell (i := 0) rfl
  have y0 := (st1.blk (i := 2) rfl).cell (i := 0) rfl
  clear st1
  by_cases h0 : C = 0
  · obtain ⟨hm1, hm2⟩ := HZ.out h0
    have HM1 := Lib.hid hm1
    have HM2 := Lib.hid hm2
    have HE := Lib.hid (show decide (leaL xss = leaL L) = V by rw [HV.out, h0]; simp)
    subst h0
    clear hm1 hm2
    go_wp2_with fail
    refine (ihlf_any _ HM1.out HM2.out HX.out HK.out (HA.out.keep S1.out.below) (ownSS_rd (S1.out.sep.ownSS (i := 1) rfl)) HE.out).mono ?_
    rintro e w2 ⟨rfl, bel2⟩
    have S2 := Lib.hid (S1.out.go bel2)
    clear bel2
    go_wp2
    go_ret2
    exact ⟨rfl, S2.out.below⟩
  · have hVf : V = false := by rw [HV.out]; simp [h0]
    subst hVf
    go_wp2
    go_ret2
    exact ⟨rfl, S1.out.below⟩
end Go.Proofs.YtpmmpnhdimgkhaaGreat
