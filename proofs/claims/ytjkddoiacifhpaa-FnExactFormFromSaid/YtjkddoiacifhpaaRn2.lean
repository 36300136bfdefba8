import Derived.Test.YtjkddoiacifhpaaRn1
namespace Go.Proofs.Ytjkddoiacifhpaa
open Go.RowKit

theorem ssto_bel {w wr : World} {n k : Nat} {xss : List (List Int)} (h : SSTo w wr n k xss) : Below w.heap.size w wr := by obtain ⟨_, _, _, _, _, _, h⟩ := h; exact h
set_option maxHeartbeats 3200000 in
set_option maxRecDepth 8000 in
theorem iren_any {b o c N n c2 : Nat} {A2 : Option Addr} {xss : List (List Int)} {p : List Int} (w : World) (hx : xss.length = N) (ha : RdSS w (some ⟨b, o, none⟩) xss) (hsys : okSys n xss = true) (hp : p.length = n) (ha2 : Rd w A2 (ints p)) (okp : okP p = true) :
    Calls Try.prog 132 #[.agg #[.slice (some ⟨b, o, none⟩) N c], .slice A2 n c2] w (RetM w (renM xss p)) := by
  have hN := (sys_parts hsys).2.2.1
  rw [hx] at hN
  have hn4 : n ≤ 400 := by have := (sys_parts hsys).2.1; omega
  have HX := Lib.hid hx
  have HA := Lib.hid ha
  have HS := Lib.hid hsys
  have HP := Lib.hid hp
  have HA2 := Lib.hid ha2
  have OP := Lib.hid okp
  have HIL := Lib.hid (show (invL p).length = n by rw [invL_len, hp])
  have HIR := Lib.hid (show InR (invL p) n by have := inR_inv p; rwa [hp] at this)
  have HPR := Lib.hid (show InR p n by have := inR_ok okp; rwa [hp] at this)
  have hmk := run_make_row' (P := Try.prog) 35 24 (.slice none 0 0) 24 Try.underlying35 Try.infoS rfl .i64 .i64 N (by omega) (by omega)
  clear hx ha hsys hp ha2 okp
  have hc0 := cell_al (Bx.start w (.slice (some ⟨b, o, none⟩) N c) 51).cell (.cells #[.slice none 0 0] 51)
  go_enter Try.func132, Try.ntmps132
  go_wp2_with fail
  refine (inverse_any _ HP.out (HA2.out.keep (below2 w _ _)) (by omega) OP.out).mono ?_
  rintro e w1 ⟨A3, c3, rfl, own, bel⟩
  rw [HIL.out] at own ⊢
  have OB := Lib.hid own
  have B1 := Lib.hid ((below2 w (.cells #[.slice (some ⟨b, o, none⟩) N c] 51) (.cells #[.slice none 0 0] 51)).trans (bel.mono (by simp; omega)))
  have hc0 := cell_be hc0 bel
  have hr1 : w1.cell? ⟨w.heap.size + 1, 0, none⟩ = some (.slice none 0 0) := (bel.cell (p := ⟨w.heap.size + 1, 0, none⟩) (by simp)).trans (by simp)
  have hf1 : w1.frozen? ⟨w.heap.size + 1, 0, none⟩ = false := (bel.frozen (p := ⟨w.heap.size + 1, 0, none⟩) (by simp)).trans (by simp)
  have hz1 : w.heap.size + 2 ≤ w1.heap.size := by have := bel.size; simp at this; omega
  clear own bel
  go_wp2_with fail
  refine (rank_any _).mono ?_
  rintro e w' ⟨rfl, rfl⟩
  obtain ⟨W, hW⟩ : ∃ W : World, W = w1.alloc (.cells #[.slice (some ⟨b, o, none⟩) N c] 51) := ⟨_, rfl⟩
  have HC0 := Lib.hid (hW ▸ cell_al hc0 _)
  have HR1 := Lib.hid (hW ▸ cell_al hr1 _)
  have HF1 := Lib.hid (show W.frozen? ⟨w.heap.size + 1, 0, none⟩ = false by rw [hW]; exact ((below1 w1 _).frozen (p := ⟨w.heap.size + 1, 0, none⟩) (show w.heap.size + 1 < w1.heap.size by omega)).trans hf1)
  have OBW := Lib.hid (show W.ownsRow (w.heap.size + 2) 2 1 (.slice A3 n c3) n (ints (invL p)) by rw [hW]; exact own_below (own_base OB.out (by simp)) (below1 _ _) (Nat.le_refl _))
  have BW := Lib.hid (show Below w.heap.size w W by rw [hW]; exact B1.out.trans ((below1 w1 _).mono B1.out.size))
  have HZW := Lib.hid (show w.heap.size + 2 ≤ W.heap.size by rw [hW]; simp; omega)
  rw [← hW]
  have ST0 := Lib.hid (ssto_start W N (renM xss p) (by unfold maxLen; omega))
  have hc := cell_be HC0.out (ssto_bel ST0.out)
  clear hW hc0 hr1 hf1 OB B1 hz1
  go_wp2
  clear hmk hc
  go_loopw [17] (fun i wr => ∃ k : Nat, k ≤ N ∧ i = .int .i64 k ∧ SSTo W wr N k (renM xss p)) (fun i _ => N - (intOf i).toNat)
  case atStart => exact ⟨0, Nat.zero_le _, rfl, ST0.out⟩
  case round =>
    obtain ⟨k, hk, rfl, st⟩ := hrel
    have S := Lib.hid st
    have BS := Lib.hid (ssto_bel st)
    have BR := Lib.hid (BW.out.trans ((ssto_bel st).mono BW.out.size))
    clear st ST0
    by_cases hlt : k < N
    · obtain ⟨b3, o3, A4, c4, m, he, hg, hc, hrd, hms⟩ := (HA.out.keep BR.out).row (k := k) (by rw [HX.out]; exact hlt)
      obtain ⟨rfl, rfl⟩ : b = b3 ∧ o = o3 := by simpa using he
      have hlg := sys_len HS.out hg
      obtain ⟨l, hl⟩ : ∃ l, m.length = l := ⟨_, rfl⟩
      rw [hl] at hc hms hlg
      obtain rfl : n = l := by omega
      have HG := Lib.hid (renM_at (p := p) hg)
      have HL := Lib.hid hl
      have HRD := Lib.hid hrd
      have HMR := Lib.hid (show InR m n by have := inR_ok ((sys_parts HS.out).2.2.2 m (List.mem_of_getElem? hg)).2; rwa [hl] at this)
      have OBR := Lib.hid (own_below OBW.out BS.out (Nat.le_refl _))
      clear he hg hl hrd hlg
      go_wp2_with fail
      refine (ithen_any _ HIL.out (own_rd OBR.out) (by omega) HL.out HRD.out HIR.out).mono ?_
      rintro e wa ⟨Aa, ca, rfl, owna, bela⟩
      rw [thenL_length, HIL.out] at owna ⊢
      have OA := Lib.hid owna
      have BA := Lib.hid bela
      have HTL := Lib.hid (show (thenL (invL p) m).length = n by rw [thenL_length, HIL.out])
      have HTR := Lib.hid (inR_then (m := n) (HL.out.symm ▸ HIR.out) HMR.out)
      clear owna bela hc
      go_wp2_with fail
      refine (ithen_any _ HTL.out (own_rd OA.out) (by omega) HP.out (HA2.out.keep (BR.out.trans (BA.out.mono BR.out.size))) HTR.out).mono ?_
      rintro e wb ⟨Ab, cb, rfl, ownb, belb⟩
      rw [thenL_length, HTL.out] at ownb ⊢
      have HCL := Lib.hid (conj_len (xs := m) HP.out)
      obtain ⟨⟨hcc, hff⟩, st2⟩ := ssto_step (A1 := Ab) (c1 := cb) S.out hlt HG.out (BA.out.trans (belb.mono BA.out.size)) (by rw [HCL.out]; exact own_base ownb BA.out.size)
      rw [HCL.out] at st2
      have S2 := Lib.hid st2
      clear ownb belb st2
      go_wp2
      go_roundw
      case rel => exact ⟨k + 1, by omega, by go_num, S2.out⟩
      case measure => simp [intOf]; omega
    · obtain rfl : k = N := by omega
      obtain ⟨own, bel⟩ := ssto_done S.out (Nat.le_refl _) (by rw [renM_length, HX.out])
      have OW := Lib.hid own
      have HLL := Lib.hid (show (renM xss p).length = k by rw [renM_length, HX.out])
      have hr1 := cell_be HR1.out bel
      have hf1 : wr.frozen? ⟨w.heap.size + 1, 0, none⟩ = false := (bel.frozen (p := ⟨w.heap.size + 1, 0, none⟩) (show w.heap.size + 1 < W.heap.size by have := HZW.out; omega)).trans HF1.out
      clear own bel
      go_wp2
      refine bodyPost_ret (v := .agg #[.slice (some ⟨W.heap.size, 0, none⟩) k k]) (by simp [results, Try.results132, go_sem, hr1]) rfl ⟨_, k, by rw [HLL.out], ?_, ?_⟩
      · rw [HLL.out]
        exact ownSS_wide (OW.out.turns2 0 (w.heap.size + 1) _ (.inl (by have := HZW.out; omega))) BW.out.size (by simp)
      · exact BR.out.setCell (p := ⟨w.heap.size + 1, 0, none⟩) (by simp) _
end Go.Proofs.Ytjkddoiacifhpaa
