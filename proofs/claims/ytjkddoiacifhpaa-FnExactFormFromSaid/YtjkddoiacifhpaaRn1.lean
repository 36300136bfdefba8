import Derived.Test.YtjkddoiacifhpaaNst
import Derived.StillTailTactics
namespace Go.Proofs.Ytjkddoiacifhpaa
open Go.RowKit

theorem take_renM {xss : List (List Int)} {p m : List Int} {k : Nat} (h : xss[k]? = some m) : (renM xss p).take (k + 1) = (renM xss p).take k ++ [conjL m p] := by
  rw [List.take_add_one, renM_at h]; rfl

set_option maxHeartbeats 3200000 in
set_option maxRecDepth 8000 in
theorem sren_any {b o c N n c2 : Nat} {A2 : Option Addr} {xss : List (List Int)} {p : List Int} (w : World) (hx : xss.length = N) (ha : RdSS w (some ⟨b, o, none⟩) xss) (hsys : okSys n xss = true) (hp : p.length = n) (ha2 : Rd w A2 (ints p)) (okp : okP p = true) :
    Calls Try.prog 157 #[.agg #[.slice (some ⟨b, o, none⟩) N c], .slice A2 n c2] w (RetM w (renM xss p)) := by
  have hN := (sys_parts hsys).2.2.1
  rw [hx] at hN
  have hn4 : n ≤ 400 := by have := (sys_parts hsys).2.1; omega
  have HX := Lib.hid hx
  have HA := Lib.hid ha
  have HS := Lib.hid hsys
  have HP := Lib.hid hp
  have HA2 := Lib.hid ha2
  have OP := Lib.hid okp
  have ST0 := Lib.hid (nst_start w (.slice (some ⟨b, o, none⟩) N c))
  have hmk := run_make_row' (P := Try.prog) 24 2 (.int .i64 0) 8 Try.underlying24 Try.info2 rfl .i64 .i64 n (by omega) (by omega)
  clear hx ha hsys hp ha2 okp
  go_enter Try.func157, Try.ntmps157
  go_wp2
  go_loopw [6] (fun i wr => ∃ (k hi c' : Nat) (A' : Option Addr), k ≤ N ∧ i = .int .i64 k ∧ NSt w wr (.slice (some ⟨b, o, none⟩) N c) hi A' k c' ((renM xss p).take k)) (fun i _ => N - (intOf i).toNat)
  case atStart => exact ⟨0, _, _, _, Nat.zero_le _, rfl, by simpa using ST0.out⟩
  case round =>
    obtain ⟨k, hi, c', A', hk, rfl, st⟩ := hrel
    have S := Lib.hid st
    have hbc := st.cell0
    clear st ST0
    by_cases hlt : k < N
    · obtain ⟨b3, o3, A4, c4, m, he, hg, hc, hrd, hms⟩ := (HA.out.keep S.out.below).row (k := k) (by rw [HX.out]; exact hlt)
      obtain ⟨rfl, rfl⟩ : b = b3 ∧ o = o3 := by simpa using he
      have hlg := sys_len HS.out hg
      obtain ⟨l, hl⟩ : ∃ l, m.length = l := ⟨_, rfl⟩
      rw [hl] at hc hms hlg
      obtain rfl : n = l := by omega
      have HG := Lib.hid hg
      have HL := Lib.hid hl
      have OM := Lib.hid ((sys_parts HS.out).2.2.2 m (List.mem_of_getElem? hg)).2
      have IN0 := Lib.hid (nin_start (n := n) S.out hn4)
      have hsz := S.out.size
      clear he hg hl hrd hc hlg
      obtain ⟨wo, rfl⟩ : ∃ wo : World, wo = wr := ⟨_, rfl⟩
      obtain ⟨g, hgg⟩ : ∃ g : Nat, wo.heap.size = g := ⟨_, rfl⟩
      rw [hgg] at IN0 hsz
      go_wp2
      clear hgg
      go_loopw [8] (fun q wi => ∃ f : Nat, f ≤ n ∧ q = .int .i64 f ∧ NIn w wi (.slice (some ⟨b, o, none⟩) N c) g A' k c' n ((renM xss p).take k) (renTo m p n f)) (fun q _ => n - (intOf q).toNat)
      case atStart => exact ⟨0, Nat.zero_le _, rfl, IN0.out⟩
      case round =>
        obtain ⟨f, hf, rfl, ni⟩ := hrel
        have I := Lib.hid ni
        have hbc := ni.st.cell0
        clear ni IN0
        by_cases hfn : f < n
        · obtain ⟨b3, o3, A4, c4, m2, he, hg, hc, hrd, hms⟩ := (HA.out.keep I.out.st.below).row (k := k) (by rw [HX.out]; exact hlt)
          obtain ⟨rfl, rfl⟩ : b = b3 ∧ o = o3 := by simpa using he
          obtain rfl : m2 = m := by rw [HG.out] at hg; injection hg with hg; exact hg.symm
          rw [HL.out] at hc
          obtain ⟨b4, o4, x, rfl, hgx, hcx⟩ := (HA2.out.keep I.out.st.below).int (k := f) (by rw [HP.out]; exact hfn)
          obtain ⟨x, rfl, hxn⟩ := okP_at OP.out HP.out hgx
          obtain ⟨b5, o5, y, rfl, hgy, hcy⟩ := hrd.int (k := f) (by rw [HL.out]; exact hfn)
          obtain ⟨y, rfl, hyn⟩ := okP_at OM.out HL.out hgy
          obtain ⟨b6, o6, z, he6, hgz, hcz⟩ := (HA2.out.keep I.out.st.below).int (k := y) (by rw [HP.out]; exact hyn)
          obtain ⟨rfl, rfl⟩ : b4 = b6 ∧ o4 = o6 := by simpa using he6
          obtain ⟨u, hu⟩ := ints_at (renTo_length m2 p n f) hxn
          have hcg := own_cell I.out.row hu
          have hfr := I.out.row.frozenAt x
          have HE := Lib.hid (renTo_succ (n := n) hgx hgy hgz)
          have I2 := Lib.hid ((I.out.go (below_drewN (Below.refl _ _) 1)).set x z)
          clear he hg hrd hgx hgy hgz he6 hu
          go_wp2
          go_still_tail 17, (by kernel_rfl)
          go_wp2
          go_roundw
          case rel => exact ⟨f + 1, by omega, by go_num, by rw [← HE.out]; exact I2.out⟩
          case measure => simp [intOf]; omega
        · obtain rfl : f = n := by omega
          have HE := Lib.hid (renTo_all (m := m) HL.out HP.out OM.out OP.out)
          have h := I.out
          rw [HE.out] at h
          have I2 := Lib.hid h
          clear h I
          have hc2 := I2.out.st.cell2
          obtain ⟨vals, hv, hvin, hvr⟩ := I2.out.st.rows
          have VR := Lib.hid hv
          have hz := I2.out.st.size
          have HDL := Lib.hid (conj_len (xs := m) HP.out)
          clear hv hvin hvr
          go_wp2_with (at_builtin; refine wpList_push2 _ rfl _ _ 35 24 rfl Try.underlying35 (.slice none 0 0) 24 Try.infoS rfl (w.heap.size + 3) _ _ _ rfl VR.out _ rfl rfl (by omega) (by omega) (by omega) ?_)
          intro A5 c5 w4 own4 gr4
          obtain ⟨⟨hc4, hf4⟩, st4⟩ := nin_push I2.out HDL.out (fun vals' h' => by rw [row_unique h' VR.out]; exact own4) gr4
          have S4 := Lib.hid st4
          have HT := Lib.hid (take_renM (p := p) HG.out)
          clear own4 gr4 st4 hc2
          go_wp2
          go_roundw
          case rel => exact ⟨k + 1, _, c5, A5, by omega, by go_num, by rw [HT.out]; exact S4.out⟩
          case measure => simp [intOf]; omega
    · obtain rfl : k = N := by omega
      have h := S.out
      rw [List.take_of_length_le (by rw [renM_length, HX.out]; omega)] at h
      have S2 := Lib.hid h
      have hc1 := h.cell1
      have hf1 := h.free1
      have hc2 := h.cell2
      have HLL := Lib.hid (show (renM xss p).length = k by rw [renM_length, HX.out])
      clear h
      go_wp2
      exact bodyPost_ret (v := .agg #[.slice A' k c']) (by simp [results, Try.results157, go_sem, hc1]) rfl (nst_done S2.out HLL.out)
end Go.Proofs.Ytjkddoiacifhpaa
