import Derived.Test.YtmgoaabeopnopaaL13
import Derived.Test.YtmgoaabeopnopaaL8
import Derived.Test.YtmgoaabeopnopaaL12
import Derived.Test.YtmgoaabeopnopaaL9
import Derived.Test.YtmgoaabeopnopaaL14
/- Replaced moves: facts outside the walks. -/
namespace Go.Proofs.Ytmgoaabeopnopaa
open Go.RowKit

/-- The permutation that a word does. -/
def wpL (xss : List (List Int)) (n : Nat) (wd : List Int) : List Int := (List.range n).map fun (f : Nat) => runW xss (f : Int) wd
def wdsL (xss : List (List Int)) (n : Nat) (wss : List (List Int)) : List (List Int) := wss.map (wpL xss n)
section
variable {xss wss : List (List Int)} {wd : List Int} {n f k : Nat}
theorem wpL_len : (wpL xss n wd).length = n := by simp [wpL]
theorem wpL_succ (h : f < n) : (wpL xss n wd).take (f + 1) = (wpL xss n wd).take f ++ [runW xss (f : Int) wd] := by
  rw [List.take_add_one]
  simp [wpL, h]
theorem wdsL_len : (wdsL xss n wss).length = wss.length := by simp [wdsL]
theorem wdsL_succ (h : wss[k]? = some wd) : (wdsL xss n wss).take (k + 1) = (wdsL xss n wss).take k ++ [wpL xss n wd] := by
  rw [List.take_add_one]
  simp [wdsL, h]
theorem stepW_fz {xss : List (List Int)} {n : Nat} {p g : Int} (hsys : okSys n xss = true) (h0 : 0 ≤ g) (h1 : g < (xss.length : Int)) : ∃ xs, (xs.length : Int) = n ∧ okP xs = true ∧ stepW xss p g = fz xs p := by
  have hg : g.toNat < xss.length := by omega
  have h := (sys_parts hsys).2.2.2 xss[g.toNat] (List.getElem_mem hg)
  refine ⟨xss[g.toNat], h.1, h.2, ?_⟩
  simp [stepW, fz, List.getD, hg]
theorem wordOk_cons {x : Int} {l : List Int} (h : wordOk xss (x :: l) = true) : 0 ≤ x ∧ x < (xss.length : Int) ∧ wordOk xss l = true := by
  have h1 := of_decide_eq_true h
  have h2 := h1 x (by simp)
  exact ⟨h2.1, h2.2, decide_eq_true fun y hy => h1 y (by simp [hy])⟩
theorem runW_in (hsys : okSys n xss = true) : ∀ (l : List Int) (p : Int), wordOk xss l = true → 0 ≤ p → p < (n : Int) → 0 ≤ runW xss p l ∧ runW xss p l < (n : Int)
  | [], p, _, h0, h1 => ⟨h0, h1⟩
  | x :: l, p, hw, h0, h1 => by
    obtain ⟨a, b, c⟩ := wordOk_cons hw
    obtain ⟨xs, hl, ho, he⟩ := stepW_fz (p := p) hsys a b
    have h2 := fz_in (n := n) (by omega) ho h0 h1
    show 0 ≤ runW xss (stepW xss p x) l ∧ runW xss (stepW xss p x) l < (n : Int)
    rw [he]
    exact runW_in hsys l _ c h2.1 h2.2
theorem runW_inj (hsys : okSys n xss = true) : ∀ (l : List Int) (p q : Int), wordOk xss l = true → 0 ≤ p → p < (n : Int) → 0 ≤ q → q < (n : Int) → runW xss p l = runW xss q l → p = q
  | [], p, q, _, _, _, _, _, h => h
  | x :: l, p, q, hw, h0, h1, h2, h3, h => by
    obtain ⟨a, b, c⟩ := wordOk_cons hw
    obtain ⟨xs, hl, ho, he⟩ := stepW_fz (p := p) hsys a b
    obtain ⟨ys, hl', ho', he'⟩ := stepW_fz (p := q) hsys a b
    have hg : x.toNat < xss.length := by omega
    have e1 : stepW xss p x = fz xss[x.toNat] p := by simp [stepW, fz, List.getD, hg]
    have e2 : stepW xss q x = fz xss[x.toNat] q := by simp [stepW, fz, List.getD, hg]
    have hr := (sys_parts hsys).2.2.2 xss[x.toNat] (List.getElem_mem hg)
    have k1 := fz_in (n := n) (by omega) hr.2 h0 h1
    have k2 := fz_in (n := n) (by omega) hr.2 h2 h3
    have h' : runW xss (stepW xss p x) l = runW xss (stepW xss q x) l := h
    rw [e1, e2] at h'
    exact fz_inj (n := n) (by omega) hr.2 h0 h1 h2 h3 (runW_inj hsys l _ _ c k1.1 k1.2 k2.1 k2.2 h')
theorem wpL_ok (hsys : okSys n xss = true) (hw : wordOk xss wd = true) : okP (wpL xss n wd) = true := by
  have hn4 := (sys_parts hsys).2.1
  refine decide_eq_true ⟨by rw [wpL_len]; omega, fun x hx => ?_, ?_⟩
  · rw [wpL_len]
    obtain ⟨f, hf, rfl⟩ := List.mem_map.1 hx
    have := List.mem_range.1 hf
    exact runW_in hsys _ _ hw (by omega) (by omega)
  · refine List.pairwise_map.2 (List.Pairwise.imp_of_mem ?_ List.nodup_range)
    intro a b ha hb hab h
    have h1 := List.mem_range.1 ha
    have h2 := List.mem_range.1 hb
    have := runW_inj hsys _ _ _ hw (by omega) (by omega) (by omega) (by omega) h
    omega
theorem wdsL_sys (hsys : okSys n xss = true) (hl : wss.length ≤ 16) (hw : ∀ wd ∈ wss, wordOk xss wd = true) : okSys n (wdsL xss n wss) = true := by
  have h := sys_parts hsys
  refine decide_eq_true ⟨h.1, h.2.1, by rw [wdsL_len]; exact hl, fun xs hx => ?_⟩
  obtain ⟨wd, hwd, rfl⟩ := List.mem_map.1 hx
  exact ⟨by rw [wpL_len], wpL_ok hsys (hw wd hwd)⟩
end
end Go.Proofs.Ytmgoaabeopnopaa
/- spec.l05Words. -/
namespace Go.Proofs.Ytmgoaabeopnopaa
open Go.RowKit

set_option maxHeartbeats 3200000 in
set_option maxRecDepth 100000 in
theorem swords_any {b o c N n c0 M d : Nat} {A0 B : Option Addr} {xss wss : List (List Int)} (w : World) (hx : xss.length = N) (ha : RdSS w (some ⟨b, o, none⟩) xss) (hsys : okSys n xss = true) (h0 : w.cell? ⟨b, o, none⟩ = some (.slice A0 n c0)) (hpos : 0 < N)
    (hy : wss.length = M) (hb : RdSS w B wss) (hM : M ≤ 16) (hw : ∀ wd ∈ wss, wordOk xss wd = true ∧ (wd.length : Int) ≤ 1048576) :
    Calls Try.prog 183 #[.agg #[.slice (some ⟨b, o, none⟩) N c], .slice B M d] w fun e w' => ∃ A' c' vals, e = .returned (.slice A' M c') ∧ St w w' [.rows 2 36 A' M c' vals (wdsL xss n wss)] := by
  have hn4 := (sys_parts hsys).2.1
  have HX := Lib.hid hx
  have HA := Lib.hid ha
  have HS := Lib.hid hsys
  have HC0 := Lib.hid h0
  have HY := Lib.hid hy
  have HB := Lib.hid hb
  have HW := Lib.hid hw
  have st0 := ((St.start w).addBlk #[.slice (some ⟨b, o, none⟩) N c] 27).addMadeRows 2 36
  simp at st0
  have S0 := Lib.hid st0
  clear hx ha hsys h0 hy hb hw st0
  go_enter Try.func183, Try.ntmps183
  go_wp2
  go_loopw [5, 6] (fun u v wr => ∃ (k cR : Nat) (AR : Option Addr) (vals : List Value), k ≤ M ∧ u = .slice AR k cR ∧ v = .int .i64 k ∧ St w wr [.blk w.heap.size #[.slice (some ⟨b, o, none⟩) N c] 27, .rows 2 36 AR k cR vals ((wdsL xss n wss).take k)]) (fun _ v _ => M - (intOf v).toNat)
  case atStart => exact ⟨0, 0, _, [], Nat.zero_le _, rfl, rfl, S0.out⟩
  case round =>
    obtain ⟨k, cR, AR, vals, hk, rfl, rfl, st⟩ := hrel
    clear S0
    by_cases hkM : k < M
    · obtain ⟨wd, hwd⟩ : ∃ wd, wss[k]? = some wd := ⟨_, List.getElem?_eq_getElem (by rw [HY.out]; exact hkM)⟩
      have HWD := Lib.hid hwd
      obtain ⟨hwo, hwl⟩ := HW.out wd (List.mem_of_getElem? hwd)
      obtain ⟨l, hl⟩ : ∃ l, wd.length = l := ⟨_, rfl⟩
      rw [hl] at hwl
      have HWO := Lib.hid hwo
      have HL := Lib.hid hl
      have S1 := Lib.hid (st.addMade 2)
      obtain ⟨wo, hwo'⟩ : ∃ wo, wo = wr := ⟨_, rfl⟩
      subst hwo'
      clear st hwd hwo hl
      go_wp2
      go_loopw [7, 8] (fun u v wr => ∃ (f c6 : Nat) (A6 : Option Addr), f ≤ n ∧ u = .slice A6 f c6 ∧ v = .int .i64 f ∧ St w wr [.blk w.heap.size #[.slice (some ⟨b, o, none⟩) N c] 27, .rows 2 36 AR k cR vals ((wdsL xss n wss).take k), .own 2 A6 f c6 (ints ((wpL xss n wd).take f))]) (fun _ v _ => n - (intOf v).toNat)
      case atStart => exact ⟨0, 0, _, Nat.zero_le _, rfl, rfl, S1.out⟩
      case round =>
        obtain ⟨f, c6, A6, hf, rfl, rfl, st⟩ := hrel
        have hbc := (st.blk (i := 0) rfl).cell (i := 0) rfl
        have S2 := Lib.hid st
        clear st S1
        by_cases hfn : f < n
        · have fI : (f : Int) < (n : Int) := by omega
          go_wp2_with fail
          refine (sFlags_bel _ hpos (cell_be HC0.out S2.out.below)).mono ?_
          rintro e wa ⟨rfl, bel⟩
          have S3 := Lib.hid (S2.out.go bel)
          clear bel hbc S2
          have hbc := (S3.out.blk (i := 0) rfl).cell (i := 0) rfl
          obtain ⟨b3, o3, A4, c4, wd', rfl, hg, hc, hrd, hms⟩ := (HB.out.keep S3.out.below).row (k := k) (by rw [HY.out]; exact hkM)
          obtain rfl : wd' = wd := by rw [HWD.out] at hg; injection hg with hg; exact hg.symm
          rw [HL.out] at hc hms
          have Sd := Lib.hid (S3.out.go (below_drewN (Below.refl _ _) 1))
          have HRD := Lib.hid (hrd.keep (below_drewN (Below.refl _ _) 1))
          have HAd := Lib.hid (HA.out.keep Sd.out.below)
          have HSU := Lib.hid (wpL_succ (xss := xss) (wd := wd') hfn)
          have kI : (k : Int) < (M : Int) := by omega
          clear hg hrd S3
          go_wp2
          go_region_law ((first
            | (refine step_call rfl 190 #[.tmp 24, .tmp 25, .tmp 29] #[27, 2, 36] (by rfl) Try.func190 (by rfl) (by rfl) #[.agg #[.slice (some ⟨b, o, none⟩) N c], .int .i64 f, .slice A4 l c4] (by simp [Act.eval]) _ (sRunL_bel f _ HX.out HAd.out HS.out HL.out HRD.out (by omega) hfn HWO.out) ?_
               rintro e wc ⟨rfl, bel⟩
               refine ⟨_, rfl, ?_⟩
               have S4 := Lib.hid (Sd.out.go bel)
               have hlo := S4.out.lo)
            | (refine step_push_h rfl (.tmp 23) (.tmp 31) 36 2 (by rfl) Try.underlying36 (.int .i64 0) 8 Try.info2 rfl wc.heap.size (by rfl) w.heap.size (.slice A6 f c6) f _ (by rfl) (S4.out.own (i := 2) rfl) _ (by rfl) (by rfl) (by omega) (by omega) hlo ?_
               intro A7 c7 w7 own7 gr7 hat7)))
          all_goals
            have own8 : w7.ownsRow w.heap.size 2 1 (.slice A7 (f + 1) c7) (f + 1) (ints ((wpL xss n wd').take (f + 1))) := by
              rw [HSU.out]
              simpa [ints] using own7
            have S7 := Lib.hid (S4.out.push (i := 2) rfl own8 gr7 hat7)
            clear own7 own8 gr7 hat7
            go_wp2
            go_roundw
            case rel => exact ⟨f + 1, _, _, by omega, rfl, by go_num, S7.out⟩
            case measure => simp [intOf]; omega
        · obtain rfl : f = n := by omega
          go_wp2_with fail
          refine (sFlags_bel _ hpos (cell_be HC0.out S2.out.below)).mono ?_
          rintro e wa ⟨rfl, bel⟩
          have st3 := S2.out.go bel
          rw [List.take_of_length_le (l := wpL xss f wd) (by rw [wpL_len]; exact Nat.le_refl _)] at st3
          have hlo := st3.lo
          have S3 := Lib.hid st3
          have HWS := Lib.hid (wdsL_succ (xss := xss) (n := f) HWD.out)
          clear bel hbc S2 st3
          go_wp2_with (at_builtin; refine wpList_push_at _ rfl _ _ 22 36 rfl Try.underlying22 (.slice none 0 0) 24 Try.infoS rfl w.heap.size _ _ _ rfl (S3.out.rows (i := 1) rfl) _ rfl rfl (by omega) (by omega) hlo ?_)
          intro A8 c8 w8 own8 gr8 hat8
          have st8 := (S3.out.rowPush (i := 1) (j := 2) rfl rfl wpL_len (by decide) (by decide) own8 gr8 hat8).take 2
          have S9 := Lib.hid (show St w w8 [.blk w.heap.size #[.slice (some ⟨b, o, none⟩) N c] 27, .rows 2 36 A8 (k + 1) c8 (vals ++ [.slice A6 f c6]) ((wdsL xss f wss).take (k + 1))] from by
            rw [HWS.out]
            exact st8)
          clear own8 gr8 hat8 st8
          go_wp2
          go_roundw
          case rel => exact ⟨k + 1, _, _, _, by omega, rfl, by go_num, S9.out⟩
          case measure => simp [intOf]; omega
    · obtain rfl : k = M := by omega
      rw [List.take_of_length_le (by rw [wdsL_len, HY.out]; exact Nat.le_refl _)] at st
      have S3 := Lib.hid st
      clear st
      go_wp2
      go_ret
      refine ⟨AR, cR, vals, rfl, S3.out.pick (fun i => i + 1) (fun i hi => by simp at hi ⊢; omega) (fun i hi => by match i, hi with | 0, _ => rfl) (fun i j _ _ h => by omega)⟩
end Go.Proofs.Ytmgoaabeopnopaa
/- spec.l05Replace. -/
namespace Go.Proofs.Ytmgoaabeopnopaa
open Go.RowKit

noncomputable def repL (xss : List (List Int)) (n : Nat) (wss : List (List Int)) : List (List Int) := secL (wdsL xss n wss) n 0
set_option maxHeartbeats 3200000 in
set_option maxRecDepth 100000 in
theorem srep_any {b o c N n c0 M d : Nat} {A0 B : Option Addr} {xss wss : List (List Int)} (w : World) (hx : xss.length = N) (ha : RdSS w (some ⟨b, o, none⟩) xss) (hsys : okSys n xss = true) (h0 : w.cell? ⟨b, o, none⟩ = some (.slice A0 n c0)) (hpos : 0 < N) (hn : 0 < n)
    (hy : wss.length = M) (hb : RdSS w B wss) (hM1 : 1 ≤ M) (hM : M ≤ 5) (hw : ∀ wd ∈ wss, wordOk xss wd = true ∧ (wd.length : Int) ≤ 1048576) :
    Calls Try.prog 176 #[.agg #[.slice (some ⟨b, o, none⟩) N c], .slice B M d] w fun e w' => ∃ A' c' vals, e = .returned (.tuple #[.agg #[.slice A' M c'], .bool (okMan (repL xss n wss))]) ∧ St w w' [.rows 2 36 A' M c' vals (repL xss n wss)] := by
  have hn4 := (sys_parts hsys).2.1
  have hks := wdsL_sys (wss := wss) hsys (by omega) (fun wd h => (hw wd h).1)
  have hkl : (wdsL xss n wss).length = M := by rw [wdsL_len, hy]
  have HX := Lib.hid hx
  have HA := Lib.hid ha
  have HS := Lib.hid hsys
  have HC0 := Lib.hid h0
  have HY := Lib.hid hy
  have HB := Lib.hid hb
  have HW := Lib.hid hw
  have HKS := Lib.hid hks
  have HKL := Lib.hid hkl
  have st0 := ((St.start w).addBlk #[.slice (some ⟨b, o, none⟩) N c] 27).addBlk #[.slice none 0 0] 27
  simp at st0
  have S0 := Lib.hid st0
  have hbc := (st0.blk (i := 0) rfl).cell (i := 0) rfl
  obtain ⟨m1, hm1⟩ : ∃ m1, M - 1 = m1 := ⟨_, rfl⟩
  have jm : IntKind.i64.wrap ((M : Int) - 1) = (m1 : Int) := (IntWalk.i64_in _ (by omega)).trans (by omega)
  have hm2 : m1 + 1 = M := by omega
  obtain ⟨V, hV⟩ : ∃ V, okMan (repL xss n wss) = V := ⟨_, rfl⟩
  rw [hV]
  have HV := Lib.hid hV
  clear hx ha hsys h0 hy hb hw hks hkl st0 hm1 hV
  go_enter Try.func176, Try.ntmps176
  go_wp2_with fail
  refine (swords_any _ HX.out (HA.out.keep S0.out.below) HS.out (cell_be HC0.out S0.out.below) hpos HY.out (HB.out.keep S0.out.below) (by omega) HW.out).mono ?_
  rintro e w1 ⟨A1, c1, vals1, rfl, st⟩
  have st1 := (S0.out.join st).addBlk #[.slice A1 M c1] 27
  have hss := st1.sep.ownSS (i := 2) rfl
  have hcap := ownSS_cap hss
  have hrd := ownSS_rd hss
  obtain ⟨b6, o6, A6, c6, xs6, hA6, hg6, hc6, _, _⟩ := hrd.row (k := 0) (by rw [HKL.out]; omega)
  have hl6 : xs6.length = n := by have := sys_len HKS.out hg6; omega
  subst hA6
  rw [hl6, Nat.add_zero] at hc6
  have HRD := Lib.hid hrd
  have HC6 := Lib.hid hc6
  have k0 := (st1.blk (i := 3) rfl).cell (i := 0) rfl
  have S1 := Lib.hid st1
  clear st st1 hss hrd hg6 hc6 hl6 hbc
  go_wp2_with fail
  refine (ssec_any _ (i := 0) (k := m1) (f := 0) HKL.out HRD.out HKS.out HC6.out hn (by omega) (by omega) hcap.1 hcap.2 (by omega)).mono ?_
  rintro e w2 ⟨A2, c2, rfl, own2, bel2⟩
  obtain ⟨vals, st⟩ := S1.out.addRows bel2 own2 (Nat.le_refl _) (Nat.le_refl _)
  have hrep : secL (((wdsL xss n wss).drop 0).take (m1 + 1 - 0)) n 0 = repL xss n wss := by
    rw [List.drop_zero, Nat.sub_zero, hm2, List.take_of_length_le (by rw [HKL.out]; exact Nat.le_refl _)]
    rfl
  rw [hrep] at st ⊢
  have hrl : (repL xss n wss).length = M := by rw [repL, secL_len, HKL.out]
  rw [hrl] at st ⊢
  have st3 := st.addBlk #[.slice A2 M c2] 27
  have hpa := (orb_facts HKS.out hn).1
  have hrr : ∀ xs ∈ repL xss n wss, (xs.length : Int) ≤ 1048576 := fun xs hxs => by
    obtain ⟨m, _, rfl⟩ := List.mem_map.1 hxs
    have := passed_len hpa
    rw [secRow_len]
    omega
  have Sd := Lib.hid (st3.go (below_drewN (Below.refl _ _) 1))
  have SdS := Lib.hid (Sd.out.blkSet (i := 1) rfl 0 (.slice A2 M c2))
  have HRa := Lib.hid (ownSS_rd (Sd.out.sep.ownSS (i := 4) rfl))
  have HRb := Lib.hid (ownSS_rd (SdS.out.sep.ownSS (i := 4) rfl))
  have HRL := Lib.hid hrl
  have HRR := Lib.hid hrr
  have o0 := (st3.blk (i := 5) rfl).cell (i := 0) rfl
  have r0 := (st3.blk (i := 1) rfl).cell (i := 0) rfl
  have g0 := (st3.blk (i := 1) rfl).free 0
  have hM6 : M ≤ 1048576 := by omega
  clear st st3 own2 bel2 hrep hrl hrr hpa k0 HRD HC6 S1
  go_wp2
  go_region_law ((first
    | (refine step_call rfl 83 #[.tmp 18] #[27] (by rfl) Try.func83 (by rfl) (by rfl) #[.agg #[.slice A2 M c2]] (by simp [Act.eval]) _ (sIs_any _ HRL.out HRa.out hM6 HRR.out) ?_
       rintro e wc ⟨rfl, bel⟩
       rw [HV.out]
       refine ⟨_, rfl, ?_⟩
       have S6 := Lib.hid ((Sd.out.go bel).blkSet (i := 1) rfl 0 (.slice A2 M c2))
       have o1 := ((Sd.out.go bel).blk (i := 5) rfl).cell (i := 0) rfl
       have r1 := ((Sd.out.go bel).blk (i := 1) rfl).cell (i := 0) rfl
       have g1 := ((Sd.out.go bel).blk (i := 1) rfl).free 0)
    | (refine step_call rfl 83 #[.tmp 18] #[27] (by rfl) Try.func83 (by rfl) (by rfl) #[.agg #[.slice A2 M c2]] (by simp [Act.eval]) _ (sIs_any _ HRL.out HRb.out hM6 HRR.out) ?_
       rintro e wc ⟨rfl, bel⟩
       rw [HV.out]
       refine ⟨_, rfl, ?_⟩
       have S6 := Lib.hid (SdS.out.go bel))))
  all_goals
    have y0 := (S6.out.blk (i := 1) rfl).cell (i := 0) rfl
    clear bel
    go_wp2
    refine bodyPost_ret (v := .tuple #[.agg #[.slice A2 M c2], .bool V]) (by simp [results, Try.results176, go_sem, y0]) rfl ⟨A2, c2, vals, rfl, ?_⟩
    exact S6.out.pick (fun i => i + 4) (fun i hi => by simp at hi ⊢; omega) (fun i hi => by match i, hi with | 0, _ => rfl) (fun i j _ _ h => by omega)
end Go.Proofs.Ytmgoaabeopnopaa
/- spec.l05Dual, DualOf. -/
namespace Go.Proofs.Ytmgoaabeopnopaa
open Go.RowKit

/-- The words of single moves, in reverse order. -/
def dualW (N : Nat) : List (List Int) := (List.range N).map fun (j : Nat) => [((N - 1 - j : Nat) : Int)]
noncomputable def dualL (xss : List (List Int)) (n : Nat) : List (List Int) := repL xss n (dualW xss.length)
noncomputable def duR (xss : List (List Int)) : List (List Int) := if okMan xss = true then dualL xss (flN xss) else []
noncomputable def duC (xss : List (List Int)) : Int := if okMan xss = true then 0 else 1
theorem dualW_len (N : Nat) : (dualW N).length = N := by simp [dualW]
theorem dualW_succ {N k : Nat} (h : k < N) : (dualW N).take (k + 1) = (dualW N).take k ++ [[((N - 1 - k : Nat) : Int)]] := by
  rw [List.take_add_one]
  simp [dualW, h]
theorem dualW_ok {xss : List (List Int)} {N : Nat} (hx : xss.length = N) : ∀ wd ∈ dualW N, wordOk xss wd = true ∧ (wd.length : Int) ≤ 1048576 := fun wd h => by
  obtain ⟨j, hj, rfl⟩ := List.mem_map.1 h
  have := List.mem_range.1 hj
  exact ⟨decide_eq_true fun x hx' => by simp at hx'; omega, by simp⟩
theorem repL_len {xss wss : List (List Int)} {n : Nat} : (repL xss n wss).length = wss.length := by rw [repL, secL_len, wdsL_len]

set_option maxHeartbeats 1600000 in
set_option maxRecDepth 8000 in
theorem sdual_any {b o c N n c0 : Nat} {A0 : Option Addr} {xss : List (List Int)} (w : World) (hx : xss.length = N) (ha : RdSS w (some ⟨b, o, none⟩) xss) (hsys : okSys n xss = true) (h0 : w.cell? ⟨b, o, none⟩ = some (.slice A0 n c0)) (hpos : 0 < N) (hn : 0 < n) (hN5 : N ≤ 5) :
    Calls Try.prog 159 #[.agg #[.slice (some ⟨b, o, none⟩) N c]] w fun e w' => ∃ A' c' vals, e = .returned (.agg #[.slice A' N c']) ∧ St w w' [.rows 2 36 A' N c' vals (dualL xss n)] := by
  have HX := Lib.hid hx
  have HA := Lib.hid ha
  have HS := Lib.hid hsys
  have HC0 := Lib.hid h0
  have HDW := Lib.hid (dualW_ok hx)
  have HDL := Lib.hid (show dualL xss n = repL xss n (dualW N) by rw [dualL, hx])
  have st0 := (((St.start w).addBlk #[.slice (some ⟨b, o, none⟩) N c] 27).addBlk #[.slice none 0 0] 27).addMadeRows 2 36
  simp at st0
  have S0 := Lib.hid st0
  have hbc := (Bx.start w (.slice (some ⟨b, o, none⟩) N c) 27).cell
  have hj : IntKind.i64.wrap ((N : Int) - 1) = (N : Int) - 1 := IntWalk.i64_in _ (by omega)
  clear hx ha hsys h0 st0
  go_enter Try.func159, Try.ntmps159
  go_wp2
  clear hbc hj
  go_loopw [3, 4] (fun u v wr => ∃ (k cR : Nat) (AR : Option Addr) (vals : List Value) (z : Int), k ≤ N ∧ u = .slice AR k cR ∧ v = .int .i64 z ∧ z + 1 + (k : Int) = (N : Int) ∧ St w wr [.blk w.heap.size #[.slice (some ⟨b, o, none⟩) N c] 27, .blk (w.heap.size + 1) #[.slice none 0 0] 27, .rows 2 36 AR k cR vals ((dualW N).take k)]) (fun _ v _ => (intOf v + 1).toNat)
  case atStart => exact ⟨0, 0, _, [], _, Nat.zero_le _, rfl, rfl, by omega, S0.out⟩
  case round =>
    obtain ⟨k, cR, AR, vals, z, hk, rfl, rfl, hz, st⟩ := hrel
    clear S0
    by_cases hkN : k < N
    · obtain ⟨z, rfl⟩ := Int.eq_ofNat_of_zero_le (show 0 ≤ z by omega)
      have hz2 : N - 1 - k = z := by omega
      have HSU := Lib.hid (show (dualW N).take (k + 1) = (dualW N).take k ++ [[(z : Int)]] by rw [dualW_succ hkN, hz2])
      have S1 := Lib.hid (st.addLit1 (.int .i64 (z : Int)) 2)
      have hlo := S1.out.lo
      have hH : (wr.alloc (.cells #[.int .i64 (z : Int)] 2)).heap.size = wr.heap.size + 1 := by simp
      have HH := Lib.hid hH
      have hlo1 := st.lo
      clear st hz2 hH
      go_wp2_with (at_builtin; refine wpList_push_h _ rfl (.tmp 16) (.tmp 19) 22 36 rfl Try.underlying22 (.slice none 0 0) 24 Try.infoS rfl _ HH.out w.heap.size (.slice AR k cR) _ _ rfl (S1.out.rows (i := 2) rfl) _ rfl rfl (by omega) (by omega) (by omega) ?_)
      intro A8 c8 w8 own8 gr8 hat8
      have st8 := (S1.out.rowPush (i := 2) (j := 3) (xs := [(z : Int)]) rfl rfl rfl (by decide) (by decide) own8 gr8 (by rw [HH.out]; exact hat8)).take 3
      have S9 := Lib.hid (show St w w8 [.blk w.heap.size #[.slice (some ⟨b, o, none⟩) N c] 27, .blk (w.heap.size + 1) #[.slice none 0 0] 27, .rows 2 36 A8 (k + 1) c8 (vals ++ [.slice (some ⟨wr.heap.size, 0, none⟩) 1 1]) ((dualW N).take (k + 1))] from by
        rw [HSU.out]
        exact st8)
      clear own8 gr8 hat8 st8
      go_wp2
      go_roundw
      case rel => exact ⟨k + 1, _, _, _, (z : Int) - 1, by omega, rfl, by go_num, by omega, S9.out⟩
      case measure => simp [intOf]
    · obtain rfl : k = N := by omega
      obtain rfl : z = -1 := by omega
      rw [List.take_of_length_le (by rw [dualW_len]; exact Nat.le_refl _)] at st
      have hbc := (st.blk (i := 0) rfl).cell (i := 0) rfl
      have S2 := Lib.hid st
      clear st hz
      go_wp2_with fail
      refine (srep_any _ HX.out (HA.out.keep S2.out.below) HS.out (cell_be HC0.out S2.out.below) hpos hn (dualW_len _) (ownSS_rd (S2.out.sep.ownSS (i := 2) rfl)) hpos hN5 HDW.out).mono ?_
      rintro e w3 ⟨A3, c3, vals3, rfl, st3⟩
      rw [← HDL.out] at st3
      have st4 := (S2.out.join st3).addBlk #[.slice A3 k c3] 27
      have x0 := (st4.blk (i := 4) rfl).cell (i := 0) rfl
      have z0 := (st4.blk (i := 1) rfl).cell (i := 0) rfl
      have f0 := (st4.blk (i := 1) rfl).free 0
      have S4 := Lib.hid st4
      clear st3 st4 hbc
      go_wp2
      have st5 := S4.out.blkSet (i := 1) rfl 0 (.slice A3 k c3)
      have y0 := (st5.blk (i := 1) rfl).cell (i := 0) rfl
      refine bodyPost_ret (v := .agg #[.slice A3 k c3]) (by simp [results, Try.results159, go_sem, y0]) rfl ⟨A3, c3, vals3, rfl, ?_⟩
      exact st5.pick (fun i => i + 3) (fun i hi => by simp at hi ⊢; omega) (fun i hi => by match i, hi with | 0, _ => rfl) (fun i j _ _ h => by omega)

end Go.Proofs.Ytmgoaabeopnopaa
/- spec.l05Three, OppositeOf, HalfOf. -/
namespace Go.Proofs.Ytmgoaabeopnopaa
open Go.RowKit

theorem rd_blk {w : World} {g : Nat} {cs : Array Value} {t : TypeId} (h : Blk w g cs t) : Rd w (some ⟨g, 0, none⟩) cs.toList := fun _ => ⟨g, 0, rfl, fun k u hu => by
  rw [Nat.zero_add]
  exact h.cell (by simpa using hu)⟩
theorem rdSS3 {w : World} {g c1 c2 c3 n1 n2 n3 : Nat} {A1 A2 A3 : Option Addr} {a b c : List Int} {t : TypeId} (h : Blk w g #[.slice A1 n1 c1, .slice A2 n2 c2, .slice A3 n3 c3] t) (h1 : Rd w A1 (ints a)) (h2 : Rd w A2 (ints b)) (h3 : Rd w A3 (ints c)) (l1 : a.length = n1) (l2 : b.length = n2) (l3 : c.length = n3) (hb : n1 ≤ 1000 ∧ n2 ≤ 1000 ∧ n3 ≤ 1000) : RdSS w (some ⟨g, 0, none⟩) [a, b, c] := by
  subst l1
  subst l2
  subst l3
  refine ⟨[.slice A1 a.length c1, .slice A2 b.length c2, .slice A3 c.length c3], rd_blk h, rfl, fun j xs hj => ?_⟩
  match j, hj with
  | 0, hj => injection hj with hj; subst hj; exact ⟨A1, c1, rfl, h1, by omega⟩
  | 1, hj => injection hj with hj; subst hj; exact ⟨A2, c2, rfl, h2, by omega⟩
  | 2, hj => injection hj with hj; subst hj; exact ⟨A3, c3, rfl, h3, by omega⟩
noncomputable def thR (xss : List (List Int)) (n : Nat) (wss : List (List Int)) : List (List Int) := if xss.length = 3 ∧ okMan (repL xss n wss) = true then repL xss n wss else []
noncomputable def thC (xss : List (List Int)) (n : Nat) (wss : List (List Int)) : Int := if xss.length = 3 ∧ okMan (repL xss n wss) = true then 0 else 5

def op5W : List (List Int) := [[0], [1], [0, 2]]
noncomputable def op5R (xss : List (List Int)) : List (List Int) := if okMan xss = true then thR xss (flN xss) op5W else []
noncomputable def op5C (xss : List (List Int)) : Int := if okMan xss = true then thC xss (flN xss) op5W else 1

def ha5W : List (List Int) := [[0, 1, 0], [2], [1]]
noncomputable def ha5R (xss : List (List Int)) : List (List Int) := if okMan xss = true then thR xss (flN xss) ha5W else []
noncomputable def ha5C (xss : List (List Int)) : Int := if okMan xss = true then thC xss (flN xss) ha5W else 1

end Go.Proofs.Ytmgoaabeopnopaa
/- spec.l05Singles, PetrieOf. -/
namespace Go.Proofs.Ytmgoaabeopnopaa
open Go.RowKit

def sglW (N : Nat) : List (List Int) := (List.range N).map fun (j : Nat) => [(j : Int)]
def petW (N : Nat) : List (List Int) := (sglW N).set (N - 3) [((N - 3 : Nat) : Int), ((N - 1 : Nat) : Int)]
theorem sglW_len (N : Nat) : (sglW N).length = N := by simp [sglW]
theorem petW_len (N : Nat) : (petW N).length = N := by simp [petW, sglW_len]
theorem sglW_succ {N k : Nat} (h : k < N) : (sglW N).take (k + 1) = (sglW N).take k ++ [[(k : Int)]] := by
  rw [List.take_add_one]
  simp [sglW, h]
theorem sglW_ok {xss : List (List Int)} {N : Nat} (hx : xss.length = N) : ∀ wd ∈ sglW N, wordOk xss wd = true ∧ (wd.length : Int) ≤ 1048576 := fun wd h => by
  obtain ⟨j, hj, rfl⟩ := List.mem_map.1 h
  have := List.mem_range.1 hj
  exact ⟨decide_eq_true fun x hx' => by simp at hx'; omega, by simp⟩
theorem petW_ok {xss : List (List Int)} {N : Nat} (hx : xss.length = N) (h3 : 3 ≤ N) : ∀ wd ∈ petW N, wordOk xss wd = true ∧ (wd.length : Int) ≤ 1048576 := fun wd h => by
  rcases List.mem_or_eq_of_mem_set h with h | rfl
  · exact sglW_ok hx wd h
  · exact ⟨decide_eq_true fun x hx' => by simp at hx'; omega, by simp⟩
noncomputable def peR (xss : List (List Int)) : List (List Int) := if okMan xss = true ∧ 3 ≤ xss.length ∧ okMan (repL xss (flN xss) (petW xss.length)) = true then repL xss (flN xss) (petW xss.length) else []
noncomputable def peC (xss : List (List Int)) : Int := if okMan xss = true then (if 3 ≤ xss.length ∧ okMan (repL xss (flN xss) (petW xss.length)) = true then 0 else 5) else 1

end Go.Proofs.Ytmgoaabeopnopaa
/- spec.l01Same2, l02Same, l01Own2, l02Own. -/
namespace Go.Proofs.Ytmgoaabeopnopaa
open Go.RowKit

end Go.Proofs.Ytmgoaabeopnopaa
/- spec.IsSelfPetrie. -/
namespace Go.Proofs.Ytmgoaabeopnopaa
open Go.RowKit

/-- The least form of a maniplex. -/
noncomputable def leaL (xss : List (List Int)) : List (List Int) := lstTo xss (flN xss) (flN xss - 1)
theorem leaL_len (xss : List (List Int)) : (leaL xss).length = xss.length := lstTo_len _ _ _
theorem leaL_le {xss : List (List Int)} (h : okMan xss = true) : ∀ xs ∈ leaL xss, (xs.length : Int) ≤ 1048576 := fun xs hx => by
  have hman := okMan_iff.1 h
  have h1 := lstTo_row (fun q hq => hman.all hq) (flN xss - 1) (by have := hman.f2; omega) xs hx
  have h2 := (sys_parts hman.sys).2.1
  omega
noncomputable def spB5 (xss : List (List Int)) : Bool := decide (peC xss = 0 ∧ leaL xss = leaL (peR xss))
theorem peC_zero {xss : List (List Int)} (h : peC xss = 0) : okMan xss = true ∧ okMan (peR xss) = true := by
  unfold peC at h
  split at h
  · rename_i h1
    split at h
    · rename_i h2
      exact ⟨h1, by rw [peR, if_pos ⟨h1, h2⟩]; exact h2.2⟩
    · omega
  · omega

end Go.Proofs.Ytmgoaabeopnopaa
/- spec.IsSelfDual. -/
namespace Go.Proofs.Ytmgoaabeopnopaa
open Go.RowKit

section
variable {xss : List (List Int)} {n : Nat}
theorem leaL_le2 (hsys : okSys (flN xss) xss = true) (hn : 0 < flN xss) (hall : ∀ q : Nat, q < flN xss → (orbL xss (flN xss) q).length = flN xss) : ∀ xs ∈ leaL xss, (xs.length : Int) ≤ 1048576 := fun xs hx => by
  have h1 := lstTo_row hall (flN xss - 1) (by omega) xs hx
  have h2 := (sys_parts hsys).2.1
  omega
/-- A section's first row is as long as its orbit. -/
theorem secL_fl {yss : List (List Int)} {f : Nat} (h : 0 < yss.length) : flN (secL yss n f) = (orbL yss n f).length := by
  cases yss with
  | nil => simp at h
  | cons a r => simp [flN, secL, secRow]
theorem dualL_whole (hsys : okSys n xss = true) (hn : 0 < n) (hpos : 0 < xss.length) :
    0 < flN (dualL xss n) ∧ okSys (flN (dualL xss n)) (dualL xss n) = true ∧ ∀ q : Nat, q < flN (dualL xss n) → (orbL (dualL xss n) (flN (dualL xss n)) q).length = flN (dualL xss n) := by
  have hK : okSys n (wdsL xss n (dualW xss.length)) = true := wdsL_sys hsys (by rw [dualW_len]; exact (sys_parts hsys).2.2.1) (fun wd h => (dualW_ok rfl wd h).1)
  have e1 : dualL xss n = secL (wdsL xss n (dualW xss.length)) n 0 := rfl
  have hf : flN (dualL xss n) = (orbL (wdsL xss n (dualW xss.length)) n ((0 : Nat) : Int)).length := by
    rw [e1]
    exact secL_fl (by rw [wdsL_len, dualW_len]; exact hpos)
  have hm := (orb_facts hK hn).2.1
  refine ⟨?_, ?_, fun q hq => ?_⟩
  · rw [hf]
    exact List.length_pos_of_mem hm
  · rw [hf, e1]
    exact secL_sys hK hn rfl
  · rw [hf] at hq ⊢
    rw [e1]
    exact secL_all hK hn rfl hq
end
noncomputable def sduB (xss : List (List Int)) : Bool := decide (okMan xss = true ∧ leaL xss = leaL (dualL xss (flN xss)))

end Go.Proofs.Ytmgoaabeopnopaa
