/- impl.IsLocallySpherical. -/
import Derived.Test.YtckmmgepoccopaaIso
import Derived.Test.YtckmmgepoccopaaIsf
import Derived.Test.YtckmmgepoccopaaFrs
namespace Go.Proofs.Ytckmmgepoccopaa
open Go.RowKit

theorem Try.infoM : (Try.prog.info? 26).map (fun i => (i.zero, i.size, i.bytes)) = some (some (.agg #[.slice none 0 0]), 1, 24) := by kernel_rfl
theorem run_make_man (n : Nat) (hn : n ≤ 1048576) (w : World) : (Instr.makeSlice 151 (.int .i64 (n : Int)) (.int .i64 (n : Int))).run Try.prog w = .ok (.slice (some ⟨w.heap.size, 0, none⟩) n n) (w.alloc (.cells (madeCells #[.slice none 0 0] n) 26)) := by
  obtain ⟨i, hi, hzz⟩ := Option.map_eq_some_iff.1 Try.infoM
  simp only [Prod.mk.injEq] at hzz
  obtain ⟨hz, hs, hb⟩ := hzz
  have hr := run_make (P := Try.prog) w 151 26 i (.agg #[.slice none 0 0]) Try.underlying151 hi hz .i64 .i64 n n (by omega) (Int.le_refl _) (by rw [hb]; omega) (by omega)
  simp only [Int.toNat_natCast, hs, Nat.mul_one] at hr
  exact hr

def pvs (r : Nat) (ps : List Pf) : List Value := ps.map (Pf.val r)
theorem pvs_len {r : Nat} {ps : List Pf} : (pvs r ps).length = ps.length := by simp [pvs]
theorem pvs_set {r C : Nat} {ps : List Pf} {p : Pf} (h : ps.length < C) : (pvs r ps ++ List.replicate (C - ps.length) (Value.slice none 0 0)).set ps.length (Pf.val r p) = pvs r (ps ++ [p]) ++ List.replicate (C - (ps ++ [p]).length) (Value.slice none 0 0) := by
  have e : C - ps.length = (C - (ps ++ [p]).length) + 1 := by simp; omega
  rw [e, List.replicate_succ, List.set_append_right _ _ (by rw [pvs_len]; exact Nat.le_refl _), pvs_len, Nat.sub_self, List.set_cons_zero]
  simp [pvs]
abbrev secsPs (H g : Nat) (m : Value) (A2 : Option Addr) (c2 n C r : Nat) (L : List Int) (ps : List Pf) : List Pc :=
  [.blk H #[m] 26, .own 2 A2 n c2 (ints L), .own 26 (some ⟨g, 0, none⟩) C C (pvs r ps ++ List.replicate (C - ps.length) (Value.slice none 0 0))] ++ poolP r ps
def secO (yss : List (List Int)) (n o : Nat) : List (List Int) := secL yss n (fstO yss n o)

set_option maxRecDepth 8000 in
set_option maxHeartbeats 3200000 in
theorem isecs_any {b o c N n c0 i k C r : Nat} {A0 : Option Addr} {xss yss : List (List Int)} (w : World) (hx : xss.length = N) (ha : RdSS w (some ⟨b, o, none⟩) xss) (hsys : okSys n xss = true) (h0 : w.cell? ⟨b, o, none⟩ = some (.slice A0 n c0)) (hn : 0 < n) (hik : i ≤ k) (hk : k < N) (hcap : N ≤ c) (hc63 : c ≤ 9223372036854775807) (hN : N ≤ 16)
    (hy : (xss.drop i).take (k + 1 - i) = yss) (hr : k + 1 - i = r) (hC : cntO yss n = C) :
    Calls Try.prog 176 #[.agg #[.slice (some ⟨b, o, none⟩) N c], .int .i64 i, .int .i64 k] w fun e w' => ∃ (g c2 : Nat) (A2 : Option Addr) (ps : List Pf), e = .returned (.tuple #[.slice (some ⟨g, 0, none⟩) C C, .slice A2 n c2]) ∧ ps.length = C ∧ (∀ (j : Nat) (p : Pf), ps[j]? = some p → p.xss = secO yss n j) ∧
      St w w' ([.own 2 A2 n c2 (ints (labL yss n)), .own 26 (some ⟨g, 0, none⟩) C C (pvs r ps)] ++ poolP r ps) := by
  have hys : okSys n yss = true := by rw [← hy]; exact okSys_cut hsys _ _
  have hyl : yss.length = r := by rw [← hy]; simp; omega
  have hya : RdSS w (some ⟨b, o + i, none⟩) yss := by rw [← hy]; exact rdSS_take (rdSS_drop ha)
  have hCn : C ≤ n := hC ▸ cntO_le hys
  have hn4 := (sys_parts hsys).2.1
  have HX := Lib.hid hx
  have HA := Lib.hid ha
  have HS := Lib.hid hsys
  have HC0 := Lib.hid h0
  have HY := Lib.hid hy
  have HYS := Lib.hid hys
  have HYL := Lib.hid hyl
  have HYA := Lib.hid hya
  have HCC := Lib.hid hC
  have HLL := Lib.hid (labL_length yss n)
  have hcb := (Bx.start w (.slice (some ⟨b, o, none⟩) N c) 26).cell
  have hpos : 0 < N := by omega
  have hmk := run_make_man C (by omega)
  have st0 := (St.start w).addBlk #[.slice (some ⟨b, o, none⟩) N c] 26
  have S0 := Lib.hid st0
  have i0 : (0 : Int) ≤ (i : Int) := by omega
  have i1 : (i : Int) ≤ (k : Int) + 1 := by omega
  have i2 : (0 : Int) ≤ (k : Int) + 1 := by omega
  have i3 : (k : Int) + 1 ≤ (c : Int) := by omega
  have i4 : IntKind.i64.wrap ((k : Int) + 1) = (k : Int) + 1 := IntWalk.i64_in _ (by omega)
  have i5 : ((k : Int) + 1).toNat = k + 1 := by omega
  have i6 : k + 1 - i = r := hr
  have i7 : i < c := by omega
  have i8 : ¬ c = i := by omega
  clear hx ha hsys h0 hy hys hyl hya hC st0 hr
  go_enter Try.func176, Try.ntmps176
  go_wp2_with fail
  go_region_held3 (fun w' => w'.cell? ⟨w.heap.size, 0, none⟩ = some (.slice (some ⟨b, o, none⟩) N c)) (first | (exact hcb) | (exact q) | (go_keep; done))
    (first
      | (go_at_call 132
         have hb2 : Below w.heap.size w ((w.alloc (.cells #[.slice (some ⟨b, o, none⟩) N c] 26)).drew) := below_drewN (below1 w _) 1
         refine (ilab2_any _ (cell_be HC0.out hb2) hpos HYL.out (HYA.out.keep hb2) HYS.out hn HCC.out).mono ?_
         rintro e w2 ⟨A2, c2, rfl, own, bel2⟩
         have q0 : ((w.alloc (.cells #[.slice (some ⟨b, o, none⟩) N c] 26)).drew).cell? ⟨w.heap.size, 0, none⟩ = some (.slice (some ⟨b, o, none⟩) N c) := (Bx.start w (.slice (some ⟨b, o, none⟩) N c) 26).cell
         have q := cell_be q0 bel2))
  have S1 := Lib.hid (((S0.out.go (below_drewN (Below.refl _ _) 1)).addOwn bel2 own (Nat.le_refl _)).addMake (.slice none 0 0) C 26 (by unfold maxLen; omega))
  clear own bel2 hb2 q0 q hcb S0 i0 i1 i2 i3 i4 i5 i7 i8
  go_wp2
  clear hmk
  go_loopw [27] (fun v wr => ∃ (t : Nat) (ps : List Pf), t ≤ C ∧ v = .int .i64 t ∧ ps.length = t ∧ (∀ (j : Nat) (p : Pf), ps[j]? = some p → p.xss = secO yss n j) ∧ St w wr (secsPs w.heap.size w2.heap.size (.slice (some ⟨b, o, none⟩) N c) A2 c2 n C r (labL yss n) ps)) (fun v _ => C - (intOf v).toNat)
  case atStart => exact ⟨0, [], Nat.zero_le _, rfl, rfl, fun j p h => by simp at h, by simpa [pvs, poolP] using S1.out⟩
  case round =>
    obtain ⟨t, ps, ht, rfl, hpl, hps, st⟩ := hrel
    clear S1
    have HPS := Lib.hid hps
    have HPL := Lib.hid hpl
    clear hps
    by_cases htC : t < C
    · have tI : (t : Int) < (C : Int) := by omega
      have hfs := fst_in HYS.out (show t < cntO yss n by rw [HCC.out]; exact htC)
      obtain ⟨f, hf⟩ : ∃ f, fstO yss n t = f := ⟨_, rfl⟩
      rw [hf] at hfs
      have hfn : f < n := hfs.1
      have HIX := Lib.hid hfs.2
      have HSO := Lib.hid (show secO yss n t = secL yss n f by rw [secO, hf])
      have HSL := Lib.hid (show (secL yss n f).length = r by rw [secL_len, HYL.out])
      have hbc := (st.blk (i := 0) rfl).cell (i := 0) rfl
      have hrl := own_rd (st.own (i := 1) rfl)
      have HRL := Lib.hid hrl
      have S2 := Lib.hid st
      clear st hfs hf hrl hpl
      go_wp2_with fail
      refine (iidx_any (t : Int) _ HLL.out HRL.out (by omega)).mono ?_
      rintro e wi ⟨rfl, rfl⟩
      rw [HIX.out]
      go_wp2_with fail
      refine (isec_any _ HX.out (HA.out.keep S2.out.below) HS.out (cell_be HC0.out S2.out.below) hfn hik hk hcap hc63 hN).mono ?_
      rintro e w5 ⟨A5, c5, rfl, own5, bel5⟩
      rw [HY.out, HSL.out] at own5
      rw [HY.out, HSL.out]
      obtain ⟨vals5, st5⟩ := S2.out.addRows bel5 own5 (Nat.le_refl _) (Nat.le_refl _)
      have st6 : St w w5 (secsPs w.heap.size w2.heap.size (.slice (some ⟨b, o, none⟩) N c) A2 c2 n C r (labL yss n) ps ++ [.rows 2 28 A5 r c5 vals5 (secL yss n f)]) := st5
      obtain ⟨u, hu⟩ : ∃ u, (pvs r ps ++ List.replicate (C - ps.length) (Value.slice none 0 0))[t]? = some u := ⟨_, List.getElem?_eq_getElem (by simp [pvs_len, HPL.out]; omega)⟩
      have c3 := own_cell (st6.own (i := 2) rfl) hu
      have f3 := (st6.own (i := 2) rfl).frozenAt t
      have st7 := st6.store (i := 2) rfl t (Pf.val r ⟨A5, c5, vals5, secL yss n f⟩)
      have e7 := pvs_set (r := r) (C := C) (ps := ps) (p := ⟨A5, c5, vals5, secL yss n f⟩) (by rw [HPL.out]; exact htC)
      rw [HPL.out] at e7
      have S7 := Lib.hid (show St w (w5.setCell ⟨w2.heap.size, t, none⟩ (.slice A5 r c5)) (secsPs w.heap.size w2.heap.size (.slice (some ⟨b, o, none⟩) N c) A2 c2 n C r (labL yss n) (ps ++ [⟨A5, c5, vals5, secL yss n f⟩])) from by
        have h8 : St w (w5.setCell ⟨w2.heap.size, t, none⟩ (.slice A5 r c5)) ([.blk w.heap.size #[.slice (some ⟨b, o, none⟩) N c] 26, .own 2 A2 n c2 (ints (labL yss n)), .own 26 (some ⟨w2.heap.size, 0, none⟩) C C ((pvs r ps ++ List.replicate (C - ps.length) (Value.slice none 0 0)).set t (Pf.val r ⟨A5, c5, vals5, secL yss n f⟩))] ++ poolP r ps ++ [.rows 2 28 A5 r c5 vals5 (secL yss n f)]) := st7
        rw [poolP_push, HPL.out, e7] at h8
        exact h8)
      clear own5 bel5 hbc st5 st6 st7 e7 hu S2
      go_wp2
      go_roundw
      case rel => exact ⟨t + 1, _, by omega, by go_num, by simp [HPL.out], fun j p hj => by
        by_cases hjt : j < ps.length
        · rw [List.getElem?_append_left hjt] at hj
          exact HPS.out j p hj
        · have hjl := (List.getElem?_eq_some_iff.1 hj).1
          simp at hjl
          have e : j = ps.length := by omega
          subst e
          simp at hj
          subst hj
          rw [HPL.out, HSO.out], S7.out⟩
      case measure => simp [intOf]; omega
    · obtain rfl : t = C := by omega
      have S2 := Lib.hid (show St w wr (([.blk w.heap.size #[.slice (some ⟨b, o, none⟩) N c] 26, .own 2 A2 n c2 (ints (labL yss n)), .own 26 (some ⟨w2.heap.size, 0, none⟩) t t (pvs r ps)] ++ poolP r ps)) from by
        have h := st
        unfold secsPs at h
        rw [hpl, Nat.sub_self, List.replicate_zero, List.append_nil] at h
        exact h)
      clear st hpl
      go_wp2
      go_ret2
      exact ⟨_, c2, A2, ps, rfl, HPL.out, HPS.out, S2.out.drop 0⟩

/-- All sections of rank 3 from i are spheres. -/
def SphAt (xss : List (List Int)) (n i : Nat) : Prop := ∀ f, f < n → secChi xss n f i = 2
theorem fst_orb {yss : List (List Int)} {n f : Nat} (hsys : okSys n yss = true) (hn : 0 < n) (hf : f < n) : ∃ o, o < cntO yss n ∧ (f : Int) ∈ orbL yss n (fstO yss n o) := by
  obtain ⟨o, ho, hlt⟩ := lab_at hsys hn rfl hf
  refine ⟨o, hlt, ?_⟩
  obtain ⟨h1, h2⟩ := fst_in hsys hlt
  obtain ⟨q, hq, hin⟩ := (lab_iff hsys hf).1 ho
  have hm : (o : Int) ∈ labL yss n := List.mem_of_getElem? ho
  have hg := idxL_get hm
  have hg2 : (labL yss n)[fstO yss n o]? = some (o : Int) := hg
  obtain ⟨q2, hq2, hin2⟩ := (lab_iff hsys h1).1 hg2
  rw [hq] at hq2
  injection hq2 with hq2
  subst hq2
  obtain ⟨p, hp, rfl⟩ := orbsTo_of n (List.mem_of_getElem? hq)
  exact (orb_same hsys hp h1 hin2).2 _ hin
theorem sph_all {xss : List (List Int)} {n i : Nat} (hsys : okSys n xss = true) (hn : 0 < n) (h : ∀ o, o < cntO ((xss.drop i).take 3) n → secChi xss n (fstO ((xss.drop i).take 3) n o) i = 2) : SphAt xss n i := fun f hf => by
  have hy := okSys_cut hsys i 3
  obtain ⟨o, ho, hin⟩ := fst_orb hy hn hf
  rw [← h o ho]
  exact (sec_chi hsys (fst_in hy ho).1 hf hin).symm
theorem eu_sec {xss : List (List Int)} {i f : Nat} (hm : IsMan xss) (hf : f < flN xss) (hi : i + 3 ≤ xss.length) : euR (secL ((xss.drop i).take 3) (flN xss) f) = secChi xss (flN xss) f i ∧ manC (secL ((xss.drop i).take 3) (flN xss) f) = 0 := by
  have h1 := okMan_iff.2 (sec_man hm hf hi (by omega))
  have hl : ((xss.drop i).take 3).length = 3 := by simp; omega
  have h3 : flN (secL ((xss.drop i).take 3) (flN xss) f) = (orbL ((xss.drop i).take 3) (flN xss) f).length := secL_fl (by omega)
  constructor
  · simp only [euR, h1, if_true]
    rw [secChi, secL_len, hl, h3]
  · simp [manC, h1]

set_option maxRecDepth 8000 in
set_option maxHeartbeats 1600000 in
theorem ispheres_any {b o c N n c0 i : Nat} {A0 : Option Addr} {xss : List (List Int)} {v : Bool} (w : World) (hx : xss.length = N) (ha : RdSS w (some ⟨b, o, none⟩) xss) (hman : IsMan xss) (hfl : flN xss = n) (h0 : w.cell? ⟨b, o, none⟩ = some (.slice A0 n c0)) (hi : i + 2 < N) (hcap : N ≤ c) (hc63 : c ≤ 9223372036854775807) (hv : pB (SphAt xss n i) = v) :
    Calls Try.prog 155 #[.agg #[.slice (some ⟨b, o, none⟩) N c], .int .i64 i] w fun e w' => e = .returned (.bool v) ∧ Below w.heap.size w w' := by
  have hsys := hman.sys
  have hn2 := hman.f2
  have hn4 := hman.f4
  have hN5 := hman.r5
  rw [hfl] at hsys hn2 hn4
  rw [hx] at hN5
  obtain ⟨yss, hy⟩ : ∃ y, (xss.drop i).take 3 = y := ⟨_, rfl⟩
  obtain ⟨C, hC⟩ : ∃ C, cntO yss n = C := ⟨_, rfl⟩
  have hys : okSys n yss = true := by rw [← hy]; exact okSys_cut hsys _ _
  have hCn : C ≤ n := hC ▸ cntO_le hys
  have heu : ∀ t : Nat, t < C → euR (secO yss n t) = secChi xss n (fstO yss n t) i ∧ manC (secO yss n t) = 0 := fun t ht => by
    have hf := (fst_in hys (show t < cntO yss n by rw [hC]; exact ht)).1
    have := eu_sec (i := i) hman (f := fstO yss n t) (by rw [hfl]; exact hf) (by omega)
    rw [hfl, hy] at this
    exact this
  have hsl : ∀ t : Nat, (secO yss n t).length = 3 := fun t => by rw [secO, secL_len, ← hy]; simp; omega
  have hsr : ∀ t : Nat, t < C → ∀ xs ∈ secO yss n t, (xs.length : Int) ≤ 1048576 := fun t ht => okSys_rows (secL_sys hys (fst_in hys (show t < cntO yss n by rw [hC]; exact ht)).1 rfl)
  have hall : (∀ t : Nat, t < C → secChi xss n (fstO yss n t) i = 2) → SphAt xss n i := fun h => sph_all hsys (by omega) (by rw [hy, hC]; exact h)
  have hex : ∀ t : Nat, t < C → secChi xss n (fstO yss n t) i ≠ 2 → ¬ SphAt xss n i := fun t ht hne h => hne (h _ (fst_in hys (show t < cntO yss n by rw [hC]; exact ht)).1)
  have e3 : i + 2 + 1 - i = 3 := by omega
  have HX := Lib.hid hx
  have HA := Lib.hid ha
  have HS := Lib.hid hsys
  have HC0 := Lib.hid h0
  have HY := Lib.hid (show (xss.drop i).take (i + 2 + 1 - i) = yss by rw [e3]; exact hy)
  have HCC := Lib.hid hC
  have HEU := Lib.hid heu
  have HSL := Lib.hid hsl
  have HSR := Lib.hid hsr
  have HALL := Lib.hid hall
  have HEX := Lib.hid hex
  have HV := Lib.hid hv
  have st0 := (St.start w).addBlk #[.slice (some ⟨b, o, none⟩) N c] 26
  have S0 := Lib.hid st0
  have hbc := (st0.blk (i := 0) rfl).cell (i := 0) rfl
  have i2 : IntKind.i64.wrap ((i : Int) + 2) = ((i + 2 : Nat) : Int) := (IntWalk.i64_in _ (by omega)).trans (by omega)
  clear hx ha hsys h0 hy hys hC heu hsl hsr hall hex hv hman hfl st0
  go_enter Try.func155, Try.ntmps155
  go_wp2_with fail
  refine (isecs_any _ HX.out (HA.out.keep S0.out.below) HS.out (cell_be HC0.out S0.out.below) (by omega) (Nat.le_add_right _ _) hi hcap hc63 (by omega) HY.out e3 HCC.out).mono ?_
  rintro e w1 ⟨g, c2, A2, ps, rfl, hpl, hps, st1⟩
  have HPL := Lib.hid hpl
  have HPS := Lib.hid hps
  have S1 := Lib.hid ((S0.out.join st1).pick (Qs := [.own 2 A2 n c2 (ints (labL yss n)), .own 26 (some ⟨g, 0, none⟩) C C (pvs 3 ps)] ++ poolP 3 ps) (fun i => i + 1) (fun i hi => by simp at hi ⊢; omega) (fun i hi => by simp) (fun i j _ _ h => by omega))
  clear hpl hps st1 hbc i2 S0
  go_wp2
  go_loopw [21] (fun v wr => ∃ t : Nat, t ≤ C ∧ v = .int .i64 t ∧ (∀ j : Nat, j < t → secChi xss n (fstO yss n j) i = 2) ∧ St w wr ([.own 2 A2 n c2 (ints (labL yss n)), .own 26 (some ⟨g, 0, none⟩) C C (pvs 3 ps)] ++ poolP 3 ps)) (fun v _ => C - (intOf v).toNat)
  case atStart => exact ⟨0, Nat.zero_le _, rfl, fun j h => absurd h (by omega), S1.out⟩
  case round =>
    obtain ⟨t, ht, rfl, hok, st⟩ := hrel
    have HOK := Lib.hid hok
    clear hok S1
    by_cases htC : t < C
    · have tI : (t : Int) < (C : Int) := by omega
      obtain ⟨p, hp⟩ : ∃ p, ps[t]? = some p := ⟨_, List.getElem?_eq_getElem (by rw [HPL.out]; exact htC)⟩
      have hpx := HPS.out t p hp
      have hcm := own_cell (st.own (i := 1) rfl) (show (pvs 3 ps)[t]? = some (.slice p.a 3 p.c) by simp [pvs, hp, Pf.val])
      have st2 := st.addBlk #[.slice p.a 3 p.c] 26
      have hbx := (st2.blk (i := ([Pc.own 2 A2 n c2 (ints (labL yss n)), Pc.own 26 (some ⟨g, 0, none⟩) C C (pvs 3 ps)] ++ poolP 3 ps).length) (last_at _ _)).cell (i := 0) rfl
      have S2 := Lib.hid st2.init
      have HRD := Lib.hid (show RdSS _ p.a (secO yss n t) from by rw [← hpx]; exact St.pool_rd st2.init hp)
      have hcp := ownSS_cap (st.sep.ownSS (poolP_at hp))
      obtain ⟨x, hxx⟩ : ∃ x, secChi xss n (fstO yss n t) i = x := ⟨_, rfl⟩
      have heu := HEU.out t htC
      rw [hxx] at heu
      have HE := Lib.hid heu
      have HXX := Lib.hid hxx
      clear st st2 hp hpx heu hxx
      go_wp2_with fail
      refine (iEulerCharacteristic_any _ (HSL.out t) HRD.out (by omega) (HSR.out t htC) hcp.1 hcp.2).mono ?_
      rintro e w3 ⟨rfl, bel⟩
      rw [HE.out.1, HE.out.2]
      have S3 := Lib.hid (S2.out.go bel)
      clear bel hbx hcm
      by_cases hx2 : x = 2
      · subst hx2
        have HOK2 := Lib.hid (show ∀ j : Nat, j < t + 1 → secChi xss n (fstO yss n j) i = 2 from fun j hj => by
          rcases Nat.lt_succ_iff_lt_or_eq.1 hj with h | rfl
          · exact HOK.out j h
          · exact HXX.out)
        go_wp2
        go_roundw
        case rel => exact ⟨t + 1, by omega, by go_num, HOK2.out, S3.out⟩
        case measure => simp [intOf]; omega
      · have hxb : (x != 2) = true := by simpa using hx2
        go_wp2
        go_ret
        exact ⟨ret_bool (by rw [← HV.out, pB_false (HEX.out t htC (by rw [HXX.out]; exact hx2))]), S3.out.below⟩
    · obtain rfl : t = C := by omega
      have S2 := Lib.hid st
      clear st
      go_wp2
      go_ret
      exact ⟨ret_bool (by rw [← HV.out, pB_true (HALL.out HOK.out)]), S2.out.below⟩

set_option maxRecDepth 8000 in
set_option maxHeartbeats 1600000 in
theorem iloc_any {b o c N n c0 : Nat} {A0 : Option Addr} {xss : List (List Int)} {v : Bool} (w : World) (hx : xss.length = N) (ha : RdSS w (some ⟨b, o, none⟩) xss) (hman : IsMan xss) (hfl : flN xss = n) (h0 : w.cell? ⟨b, o, none⟩ = some (.slice A0 n c0)) (hcap : N ≤ c) (hc63 : c ≤ 9223372036854775807) (hN3 : 3 ≤ N)
    (hv : pB (3 < N → ∀ i f, i + 2 < N → f < n → secChi xss n f i = 2) = v) :
    Calls Try.prog 120 #[.agg #[.slice (some ⟨b, o, none⟩) N c]] w fun e w' => e = .returned (.bool v) ∧ Below w.heap.size w w' := by
  have hN5 := hman.r5
  rw [hx] at hN5
  have HX := Lib.hid hx
  have HA := Lib.hid ha
  have HC0 := Lib.hid h0
  have HMAN := Lib.hid hman
  have HFL := Lib.hid hfl
  have HV := Lib.hid hv
  have st0 := (St.start w).addBlk #[.slice (some ⟨b, o, none⟩) N c] 26
  have S0 := Lib.hid st0
  have hbc := (st0.blk (i := 0) rfl).cell (i := 0) rfl
  clear hx ha h0 hman hfl hv st0
  by_cases hN4 : N = 3
  · subst hN4
    go_enter Try.func120, Try.ntmps120
    go_wp2_with fail
    refine (rank_bel _).mono ?_
    rintro e w1 ⟨rfl, bel⟩
    have S1 := Lib.hid (S0.out.go bel)
    clear bel hbc
    go_wp2
    go_ret
    exact ⟨ret_bool (by rw [← HV.out, pB_true (fun h => by omega)]), S1.out.below⟩
  · have hNb : ((N : Int) == 3) = false := by rw [beq_eq_false_iff_ne]; omega
    obtain ⟨M, hM⟩ : ∃ M, N - 2 = M := ⟨_, rfl⟩
    have hj : IntKind.i64.wrap ((N : Int) - 2) = (M : Int) := (IntWalk.i64_in _ (by omega)).trans (by omega)
    have HM := Lib.hid (show N = M + 2 by omega)
    clear hM
    go_enter Try.func120, Try.ntmps120
    go_wp2_with fail
    refine (rank_bel _).mono ?_
    rintro e w1 ⟨rfl, bel⟩
    have S1 := Lib.hid (S0.out.go bel)
    clear bel hbc S0
    have hbc := (S1.out.blk (i := 0) rfl).cell (i := 0) rfl
    go_wp2_with fail
    refine (rank_bel _).mono ?_
    rintro e w2 ⟨rfl, bel⟩
    have S2 := Lib.hid (S1.out.go bel)
    clear bel hbc S1
    go_wp2
    go_loopw [10] (fun v wr => ∃ i : Nat, i ≤ M ∧ v = .int .i64 i ∧ (∀ j : Nat, j < i → SphAt xss n j) ∧ St w wr [.blk w.heap.size #[.slice (some ⟨b, o, none⟩) N c] 26]) (fun v _ => M - (intOf v).toNat)
    case atStart => exact ⟨0, Nat.zero_le _, rfl, fun j h => absurd h (by omega), S2.out⟩
    case round =>
      obtain ⟨i, hi, rfl, hok, st⟩ := hrel
      have HOK := Lib.hid hok
      have hbc := (st.blk (i := 0) rfl).cell (i := 0) rfl
      have S3 := Lib.hid st
      clear hok S2 st
      by_cases hiM : i < M
      · have iI : (i : Int) < (M : Int) := by omega
        have hi2 : i + 2 < N := by have := HM.out; omega
        obtain ⟨r, hr⟩ : ∃ r, pB (SphAt xss n i) = r := ⟨_, rfl⟩
        have HR := Lib.hid hr
        clear hr
        go_wp2_with fail
        refine (ispheres_any _ HX.out (HA.out.keep S3.out.below) HMAN.out HFL.out (cell_be HC0.out S3.out.below) hi2 hcap hc63 HR.out).mono ?_
        rintro e w3 ⟨rfl, bel⟩
        have S4 := Lib.hid (S3.out.go bel)
        clear bel hbc S3
        cases r
        · go_wp2
          go_ret
          exact ⟨ret_bool (by rw [← HV.out, pB_false (fun h => by
            have h1 : ¬ SphAt xss n i := fun h2 => by have := HR.out; rw [pB_true h2] at this; cases this
            exact h1 fun f hf => h (by omega) i f hi2 hf)]), S4.out.below⟩
        · have HOK2 := Lib.hid (show ∀ j : Nat, j < i + 1 → SphAt xss n j from fun j hj => by
            rcases Nat.lt_succ_iff_lt_or_eq.1 hj with h | rfl
            · exact HOK.out j h
            · exact pB_iff.1 HR.out)
          go_wp2
          go_roundw
          case rel => exact ⟨i + 1, by omega, by go_num, HOK2.out, S4.out⟩
          case measure => simp [intOf]; omega
      · go_wp2
        go_ret
        exact ⟨ret_bool (by rw [← HV.out, pB_true (fun _ i' f' h1 h2 => HOK.out i' (by have := HM.out; omega) f' h2)]), S3.out.below⟩

set_option maxHeartbeats 1600000 in
set_option maxRecDepth 8000 in
theorem iIsLocallySpherical_any {A : Option Addr} {c N : Nat} {xss : List (List Int)} (w : World) (hx : xss.length = N) (ha : RdSS w A xss) (hN : N ≤ 1048576) (hr : ∀ xs ∈ xss, (xs.length : Int) ≤ 1048576) (hcap : N ≤ c) (hc63 : c ≤ 9223372036854775807) :
    Calls Try.prog 68 #[.agg #[.slice A N c]] w fun e w' => e = .returned (.tuple #[.bool (lsB xss), .int .i64 (lsC xss)]) ∧ Below w.heap.size w w' := by
  have HX := Lib.hid hx
  have HA := Lib.hid ha
  have HR := Lib.hid hr
  have st0 := (St.start w).addBlk #[.slice A N c] 26
  have S0 := Lib.hid st0
  have hbc := (st0.blk (i := 0) rfl).cell (i := 0) rfl
  clear st0
  cases ho : okMan xss
  · have h1 : lsB xss = false := by simp [lsB, ho]
    have h2 : lsC xss = 1 := by simp [lsC, ho]
    rw [h1, h2]
    have HO := Lib.hid ho
    clear hx ha hr ho h1 h2
    go_enter Try.func68, Try.ntmps68
    go_wp2_with fail
    refine (iMan_any _ HX.out (HA.out.keep S0.out.below) hN HR.out).mono ?_
    rintro e w1 ⟨rfl, bel⟩
    rw [HO.out]
    have S1 := Lib.hid (S0.out.go bel)
    clear bel hbc
    go_wp2
    go_ret2
    exact ⟨rfl, S1.out.below⟩
  · have hman := okMan_iff.1 ho
    have hpos := hman.pos hx
    obtain ⟨b, o, A0, c0, rfl, hc0⟩ := man_row0 hman ha
    obtain ⟨n, hn⟩ : ∃ n, flN xss = n := ⟨_, rfl⟩
    rw [hn] at hc0
    have HC0 := Lib.hid hc0
    have HO := Lib.hid ho
    have HMAN := Lib.hid hman
    have HFL := Lib.hid hn
    by_cases hN3 : N < 3
    · have h1 : lsB xss = false := by
        have : pB (3 ≤ xss.length ∧ (3 < xss.length → ∀ i f, i + 2 < xss.length → f < flN xss → secChi xss (flN xss) f i = 2)) = false := pB_false fun h => by omega
        simp [lsB, this]
      have h2 : lsC xss = 5 := by simp [lsC, ho, hx, hN3]
      rw [h1, h2]
      have hI : (N : Int) < 3 := by omega
      clear hx ha hr ho h1 h2 hman hn hc0
      go_enter Try.func68, Try.ntmps68
      go_wp2_with fail
      refine (iMan_any _ HX.out (HA.out.keep S0.out.below) hN HR.out).mono ?_
      rintro e w1 ⟨rfl, bel⟩
      rw [HO.out]
      have S1 := Lib.hid (S0.out.go bel)
      clear bel hbc
      have hbc := (S1.out.blk (i := 0) rfl).cell (i := 0) rfl
      go_wp2_with fail
      refine (rank_bel _).mono ?_
      rintro e w2 ⟨rfl, bel⟩
      have S2 := Lib.hid (S1.out.go bel)
      clear bel hbc
      go_wp2
      go_ret2
      exact ⟨rfl, S2.out.below⟩
    · obtain ⟨r, hr2⟩ : ∃ r, lsB xss = r := ⟨_, rfl⟩
      have h1 : pB (3 < N → ∀ i f, i + 2 < N → f < n → secChi xss n f i = 2) = r := by
        rw [← hr2]
        unfold lsB
        rw [ho, Bool.true_and, hx, hn]
        refine Bool.eq_iff_iff.2 (pB_iff.trans (Iff.trans ?_ pB_iff.symm))
        exact ⟨fun h => ⟨by omega, h⟩, fun h => h.2⟩
      have h2 : lsC xss = 0 := by simp [lsC, ho, hx, hN3]
      rw [hr2, h2]
      have H1 := Lib.hid h1
      have hI : ¬ (N : Int) < 3 := by omega
      clear hx ha hr ho h1 h2 hman hn hc0 hr2
      go_enter Try.func68, Try.ntmps68
      go_wp2_with fail
      refine (iMan_any _ HX.out (HA.out.keep S0.out.below) hN HR.out).mono ?_
      rintro e w1 ⟨rfl, bel⟩
      rw [HO.out]
      have S1 := Lib.hid (S0.out.go bel)
      clear bel hbc
      have hbc := (S1.out.blk (i := 0) rfl).cell (i := 0) rfl
      go_wp2_with fail
      refine (rank_bel _).mono ?_
      rintro e w2 ⟨rfl, bel⟩
      have S2 := Lib.hid (S1.out.go bel)
      clear bel hbc
      have hbc := (S2.out.blk (i := 0) rfl).cell (i := 0) rfl
      go_wp2_with fail
      refine (iloc_any _ HX.out (HA.out.keep S2.out.below) HMAN.out HFL.out (cell_be HC0.out S2.out.below) hcap hc63 (by omega) H1.out).mono ?_
      rintro e w3 ⟨rfl, bel⟩
      have S3 := Lib.hid (S2.out.go bel)
      clear bel hbc
      go_wp2
      go_ret2
      exact ⟨rfl, S3.out.below⟩
end Go.Proofs.Ytckmmgepoccopaa
