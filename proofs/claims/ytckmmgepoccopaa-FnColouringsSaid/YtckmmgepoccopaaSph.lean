/- spec.IsLocallySpherical. -/
import Derived.Test.YtckmmgepoccopaaSml
import Derived.Test.YtckmmgepoccopaaPm
namespace Go.Proofs.Ytckmmgepoccopaa
open Go.RowKit

theorem idxL_get {ord : List Int} {x : Int} (hx : x ∈ ord) : ord[(idxL ord x).toNat]? = some x := by
  unfold idxL
  split
  · rename_i k h
    rw [List.findIdx?_eq_some_iff_getElem] at h
    obtain ⟨hk, h1, _⟩ := h
    have : ord[k] = x := by simpa using h1
    simp [hk, this]
  · rename_i h
    rw [List.findIdx?_eq_none_iff] at h
    have := h x hx
    simp at this
theorem idxL_inj {ord : List Int} {x y : Int} (hx : x ∈ ord) (hy : y ∈ ord) (h : idxL ord x = idxL ord y) : x = y := by
  have h1 := idxL_get hx
  rw [h, idxL_get hy] at h1
  injection h1 with h1
  exact h1.symm
section
variable {yss : List (List Int)} {n f l : Nat}
theorem secL_sys (hsys : okSys n yss = true) (hf : f < n) (hl : (orbL yss n f).length = l) : okSys l (secL yss n f) = true := by
  obtain ⟨hpa, hfm, hcl⟩ := orb_facts hsys hf
  have hp := sys_parts hsys
  have hln := passed_len hpa
  refine decide_eq_true ⟨by omega, by omega, by rw [secL_len]; exact hp.2.2.1, fun xs hx => ?_⟩
  obtain ⟨m, hm, rfl⟩ := List.mem_map.1 hx
  have hml := (hp.2.2.2 m hm).1
  have hok := (hp.2.2.2 m hm).2
  refine ⟨by rw [secRow_len, hl], decide_eq_true ⟨by rw [secRow_len]; omega, ?_, ?_⟩⟩
  · intro x hx
    rw [secRow_len]
    obtain ⟨y, hy, rfl⟩ := List.mem_map.1 hx
    have h1 := hcl m hm y hy
    have h2 := idxL_bd (orbL yss n f) (fz m y)
    have h3 := idxL_mem (orbL yss n f) (fz m y)
    have h4 : 0 ≤ idxL (orbL yss n f) (fz m y) := by simpa [h1] using h3
    omega
  · unfold secRow
    refine List.pairwise_map.2 (List.Pairwise.imp_of_mem ?_ hpa.2)
    intro a b ha hb hab h
    have h1 := idxL_inj (hcl m hm a ha) (hcl m hm b hb) h
    have ka := hpa.1 a ha
    have kb := hpa.1 b hb
    exact hab (fz_inj (n := n) (by omega) hok ka.1 ka.2 kb.1 kb.2 h1)
end
noncomputable def secChi (xss : List (List Int)) (n f i : Nat) : Int := eulTo (cntTo (secL ((xss.drop i).take 3) n f) (orbL ((xss.drop i).take 3) n f).length 3) 3
def SphTo (xss : List (List Int)) (n i f : Nat) : Prop := (∀ i' f', i' < i → f' < n → secChi xss n f' i' = 2) ∧ ∀ f', f' < f → secChi xss n f' i = 2
noncomputable def lsB (xss : List (List Int)) : Bool := okMan xss && pB (3 ≤ xss.length ∧ (3 < xss.length → ∀ i f, i + 2 < xss.length → f < flN xss → secChi xss (flN xss) f i = 2))
noncomputable def lsC (xss : List (List Int)) : Int := if okMan xss = true then (if xss.length < 3 then 5 else 0) else 1
theorem sph_next {xss : List (List Int)} {n i f : Nat} (h : SphTo xss n i f) (hf : n ≤ f) : SphTo xss n (i + 1) 0 :=
  ⟨fun i' f' h1 h2 => by
    by_cases hi : i' < i
    · exact h.1 i' f' hi h2
    · obtain rfl : i' = i := by omega
      exact h.2 f' (by omega), fun f' h1 => by omega⟩
theorem sph_step {xss : List (List Int)} {n i f : Nat} (h : SphTo xss n i f) (hf : secChi xss n f i = 2) : SphTo xss n i (f + 1) :=
  ⟨h.1, fun f' h1 => by
    by_cases hi : f' < f
    · exact h.2 f' hi
    · obtain rfl : f' = f := by omega
      exact hf⟩

set_option maxHeartbeats 3200000 in
set_option maxRecDepth 8000 in
theorem sIsLocallySpherical_any {A : Option Addr} {c N : Nat} {xss : List (List Int)} (w : World) (hx : xss.length = N) (ha : RdSS w A xss) (hN : N ≤ 1048576) (hr : ∀ xs ∈ xss, (xs.length : Int) ≤ 1048576) (hcap : N ≤ c) (hc63 : c ≤ 9223372036854775807) :
    Calls Try.prog 67 #[.agg #[.slice A N c]] w fun e w' => e = .returned (.tuple #[.bool (lsB xss), .int .i64 (lsC xss)]) ∧ Below w.heap.size w w' := by
  have HX := Lib.hid hx
  have HA := Lib.hid ha
  have HR := Lib.hid hr
  have st0 := (St.start w).addBlk #[.slice A N c] 26
  have S0 := Lib.hid st0
  have hbc := (st0.blk (i := 0) rfl).cell (i := 0) rfl
  clear st0
  cases ho : okMan xss
  · have h1 : lsB xss = false := by simp [lsB, ho]
    have h2 : lsC xss = 1 := by simp [lsC, ho]
    rw [h1, h2]
    have HO := Lib.hid ho
    clear hx ha hr ho h1 h2
    go_enter Try.func67, Try.ntmps67
    go_wp2_with fail
    refine (sIs_any _ HX.out (HA.out.keep S0.out.below) hN HR.out).mono ?_
    rintro e w1 ⟨rfl, bel⟩
    rw [HO.out]
    have S1 := Lib.hid (S0.out.go bel)
    clear bel hbc
    go_wp2
    go_ret2
    exact ⟨rfl, S1.out.below⟩
  · have hman := okMan_iff.1 ho
    have hsys := hman.sys
    have hn4 := hman.f4
    have hN5 := hman.r5
    have hpos := hman.pos hx
    rw [hx] at hN5
    obtain ⟨b, o, A0, c0, rfl, hc0⟩ := man_row0 hman ha
    obtain ⟨n, hn⟩ : ∃ n, flN xss = n := ⟨_, rfl⟩
    rw [hn] at hc0 hsys hn4
    have HC0 := Lib.hid hc0
    have HS := Lib.hid hsys
    have HO := Lib.hid ho
    by_cases hN3 : N < 3
    · have h1 : lsB xss = false := by
        have : pB (3 ≤ xss.length ∧ (3 < xss.length → ∀ i f, i + 2 < xss.length → f < flN xss → secChi xss (flN xss) f i = 2)) = false := pB_false fun h => by omega
        simp [lsB, this]
      have h2 : lsC xss = 5 := by simp [lsC, ho, hx, hN3]
      rw [h1, h2]
      clear hx ha hr ho h1 h2 hman hn hc0 hsys
      go_enter Try.func67, Try.ntmps67
      go_wp2_with fail
      refine (sIs_any _ HX.out (HA.out.keep S0.out.below) hN HR.out).mono ?_
      rintro e w1 ⟨rfl, bel⟩
      rw [HO.out]
      have S1 := Lib.hid (S0.out.go bel)
      clear bel hbc
      have hbc := (S1.out.blk (i := 0) rfl).cell (i := 0) rfl
      have hI : (N : Int) < 3 := by omega
      go_wp2
      go_ret2
      exact ⟨rfl, S1.out.below⟩
    · obtain ⟨r, hr2⟩ : ∃ r, lsB xss = r := ⟨_, rfl⟩
      have h1 : r = pB (3 < N → ∀ i f, i + 2 < N → f < n → secChi xss n f i = 2) := by
        rw [← hr2]
        unfold lsB
        rw [ho, Bool.true_and, hx, hn]
        refine Bool.eq_iff_iff.2 (pB_iff.trans (Iff.trans ?_ pB_iff.symm))
        exact ⟨fun h => h.2, fun h => ⟨by omega, h⟩⟩
      have h2 : lsC xss = 0 := by simp [lsC, ho, hx, hN3]
      rw [hr2, h2]
      have H1 := Lib.hid h1
      have hI : ¬ (N : Int) < 3 := by omega
      clear hx ha hr ho h1 h2 hman hn hc0 hsys hr2
      go_enter Try.func67, Try.ntmps67
      go_wp2_with fail
      refine (sIs_any _ HX.out (HA.out.keep S0.out.below) hN HR.out).mono ?_
      rintro e w1 ⟨rfl, bel⟩
      rw [HO.out]
      have S1 := Lib.hid (S0.out.go bel)
      clear bel hbc
      have hbc := (S1.out.blk (i := 0) rfl).cell (i := 0) rfl
      go_wp2
      clear hbc
      go_loopw [5] (fun v wr => ∃ i : Nat, i ≤ N ∧ v = .int .i64 i ∧ SphTo xss n i 0 ∧ St w wr [.blk w.heap.size #[.slice (some ⟨b, o, none⟩) N c] 26]) (fun v _ => N - (intOf v).toNat)
      case atStart => exact ⟨0, Nat.zero_le _, rfl, ⟨fun i' f' h => by omega, fun f' h => by omega⟩, S1.out⟩
      case round =>
        obtain ⟨i, hi, rfl, hsp, st⟩ := hrel
        have SP := Lib.hid hsp
        have S2 := Lib.hid st
        clear hsp st S1
        have j2 : IntKind.i64.wrap ((i : Int) + 2) = (i : Int) + 2 := IntWalk.i64_in _ (by omega)
        by_cases hi2 : i + 2 < N
        · have hI2 : (i : Int) + 2 < (N : Int) := by omega
          by_cases hN4 : N = 3
          · subst hN4
            go_wp2
            go_ret2
            exact ⟨by rw [H1.out, pB_true (fun h => by omega)]; rfl, S2.out.below⟩
          · have hI4 : (3 : Int) < (N : Int) := by omega
            obtain ⟨wo, hwo⟩ : ∃ wo, wo = wr := ⟨_, rfl⟩
            subst hwo
            go_wp2
            go_loopw [6] (fun v wr => ∃ f : Nat, f ≤ n ∧ v = .int .i64 f ∧ SphTo xss n i f ∧ St w wr [.blk w.heap.size #[.slice (some ⟨b, o, none⟩) N c] 26]) (fun v _ => n - (intOf v).toNat)
            case atStart => exact ⟨0, Nat.zero_le _, rfl, SP.out, S2.out⟩
            case round =>
              obtain ⟨f, hf, rfl, hsp, st⟩ := hrel
              have SP3 := Lib.hid hsp
              have hbc := (st.blk (i := 0) rfl).cell (i := 0) rfl
              have S3 := Lib.hid st
              clear hsp st S2
              by_cases hfn : f < n
              · have fI : (f : Int) < (n : Int) := by omega
                go_wp2_with fail
                refine (sFlags_bel _ hpos (cell_be HC0.out S3.out.below)).mono ?_
                rintro e wa ⟨rfl, bel⟩
                have S4 := Lib.hid (S3.out.go bel)
                clear bel hbc S3
                have hbc := (S4.out.blk (i := 0) rfl).cell (i := 0) rfl
                go_wp2_with fail
                refine (ssec_any _ (k := i + 2) HX.out (HA.out.keep S4.out.below) HS.out (cell_be HC0.out S4.out.below) hfn (by omega) hi2 hcap hc63 (by omega)).mono ?_
                rintro e wb ⟨A2, c2, rfl, own2, bel2⟩
                have e3 : i + 2 + 1 - i = 3 := by omega
                rw [e3] at own2 ⊢
                have S5 := Lib.hid (S4.out.go bel2)
                obtain ⟨l, hl⟩ : ∃ l, (orbL ((xss.drop i).take 3) n f).length = l := ⟨_, rfl⟩
                have hys := okSys_cut HS.out i 3
                have hss := secL_sys hys hfn hl
                have hyl : ((xss.drop i).take 3).length = 3 := by have := HX.out; simp; omega
                have hsl : (secL ((xss.drop i).take 3) n f).length = 3 := by rw [secL_len, hyl]
                have hrd := ownSS_rd own2
                obtain ⟨b6, o6, A6, c6, xs6, hA6, hg6, hc6, _, _⟩ := hrd.row (k := 0) (by rw [hsl]; omega)
                have hl6 : xs6.length = l := by have := sys_len hss hg6; omega
                rw [hsl] at own2 ⊢
                subst hA6
                rw [hl6, Nat.add_zero] at hc6
                have HRD := Lib.hid hrd
                have HSL := Lib.hid hsl
                have HSS := Lib.hid hss
                have HC6 := Lib.hid hc6
                have HCHI := Lib.hid (show secChi xss n f i = eulTo (cntTo (secL ((xss.drop i).take 3) n f) l 3) 3 by rw [secChi, hl])
                clear own2 bel2 hys hss hyl hsl hrd hg6 hc6 hl6 hl hbc S4
                go_wp2_with fail
                refine (scnt_any _ HSL.out HRD.out HSS.out HC6.out).mono ?_
                rintro e wc ⟨A7, c7, rfl, own7, bel7⟩
                have S6 := Lib.hid (S5.out.go bel7)
                have OW7 := Lib.hid own7
                clear own7 bel7 S5
                go_wp2_with fail
                refine (euler_any _ (cntTo_len _ _ _) (own_rd OW7.out) (by omega) (cnt_in HSS.out)).mono ?_
                rintro e wd ⟨rfl, rfl⟩
                rw [← HCHI.out]
                obtain ⟨x, hxx⟩ : ∃ x, secChi xss n f i = x := ⟨_, rfl⟩
                rw [hxx]
                have HXX := Lib.hid hxx
                clear hxx
                by_cases hx2 : x = 2
                · subst hx2
                  have SP4 := Lib.hid (sph_step SP3.out HXX.out)
                  go_wp2
                  go_roundw
                  case rel => exact ⟨f + 1, by omega, by go_num, SP4.out, S6.out⟩
                  case measure => simp [intOf]; omega
                · have hxb : (x == 2) = false := by rw [beq_eq_false_iff_ne]; exact hx2
                  go_wp2
                  go_ret2
                  exact ⟨by rw [H1.out, pB_false (fun h => hx2 (HXX.out ▸ h (by omega) i f hi2 hfn))]; rfl, S6.out.below⟩
              · have SP4 := Lib.hid (sph_next SP3.out (show n ≤ f by omega))
                have fI : ¬ (f : Int) < (n : Int) := by omega
                go_wp2_with fail
                refine (sFlags_bel _ hpos (cell_be HC0.out S3.out.below)).mono ?_
                rintro e wa ⟨rfl, bel⟩
                have S4 := Lib.hid (S3.out.go bel)
                clear bel hbc S3
                go_wp2
                go_roundw
                case rel => exact ⟨i + 1, by omega, by go_num, SP4.out, S4.out⟩
                case measure => simp [intOf]; omega
        · have hI2 : ¬ (i : Int) + 2 < (N : Int) := by omega
          go_wp2
          go_ret2
          exact ⟨by rw [H1.out, pB_true (fun _ i' f' h1 h2 => SP.out.1 i' f' (by omega) h2)]; rfl, S2.out.below⟩
end Go.Proofs.Ytckmmgepoccopaa
