import Derived.Test.YtjkddoiacifhpaaOth
import Derived.Test.YtjkddoiacifhpaaGrw
import Derived.IntWalk
namespace Go.Proofs.Ytjkddoiacifhpaa
open Go.RowKit

theorem rdSS_take {w : World} {b o i : Nat} {xss : List (List Int)} (h : RdSS w (some ⟨b, o, none⟩) xss) : RdSS w (some ⟨b, o, none⟩) (xss.take i) := by
  obtain ⟨vals, h1, h2, h3⟩ := h
  refine ⟨vals.take i, fun hl => ?_, by simp [h2], fun j xs hj => ?_⟩
  · obtain ⟨b', o', he, hc⟩ := h1 (by simp at hl; omega)
    refine ⟨b', o', he, fun k u hu => hc k u ?_⟩
    rw [List.getElem?_take] at hu
    split at hu
    · exact hu
    · simp at hu
  · rw [List.getElem?_take] at hj
    split at hj
    · rename_i hlt
      obtain ⟨A', c', a1, a2⟩ := h3 j xs hj
      exact ⟨A', c', by rw [List.getElem?_take, if_pos hlt]; exact a1, a2⟩
    · simp at hj
theorem rdSS_drop {w : World} {b o i : Nat} {xss : List (List Int)} (h : RdSS w (some ⟨b, o, none⟩) xss) : RdSS w (some ⟨b, o + i, none⟩) (xss.drop i) := by
  obtain ⟨vals, h1, h2, h3⟩ := h
  refine ⟨vals.drop i, fun hl => ?_, by simp [h2], fun j xs hj => ?_⟩
  · obtain ⟨b', o', he, hc⟩ := h1 (by simp at hl; omega)
    obtain ⟨rfl, rfl⟩ : b = b' ∧ o = o' := by simpa using he
    refine ⟨b, o + i, rfl, fun k u hu => ?_⟩
    rw [List.getElem?_drop] at hu
    rw [Nat.add_assoc]
    exact hc _ u hu
  · rw [List.getElem?_drop] at hj
    obtain ⟨A', c', a1, a2⟩ := h3 _ xs hj
    exact ⟨A', c', by rw [List.getElem?_drop]; exact a1, a2⟩
theorem part_nil {w : World} {b o c : Nat} : Part w b o 0 c [] [] := ⟨rfl, rfl, fun k u h => by simp at h, fun j xs h => by simp at h⟩
/-- The face labels of rank i. -/
def facL (xss : List (List Int)) (n i : Nat) : List Int := labL (xss.eraseIdx i) n
theorem grtL_lab {n : Nat} {yss : List (List Int)} (hsys : okSys n yss = true) (hn : 0 < n) : grtL (labL yss n) = mxL (labL yss n) + 1 := by
  have h := grt_mx (fun x hx => (labL_in hsys x hx).1) (n - 1) (by rw [labL_length]; omega)
  rwa [List.take_of_length_le (by rw [labL_length]; omega)] at h
theorem mxL_lab {n : Nat} {yss : List (List Int)} (hsys : okSys n yss = true) : 0 ≤ mxL (labL yss n) ∧ mxL (labL yss n) ≤ (n : Int) := by
  have h := mxL_bd (labL_in hsys) n
  rw [List.take_of_length_le (by rw [labL_length]; omega)] at h
  omega
theorem okSys_rows {n : Int} {yss : List (List Int)} (h : okSys n yss = true) : ∀ xs ∈ yss, (xs.length : Int) ≤ 1048576 := fun xs hx => by
  have h1 := sys_parts h
  have h2 := (h1.2.2.2 xs hx).1
  omega

set_option maxHeartbeats 1600000 in
theorem ilabels_any {b o c N n n2 c2 c0 : Nat} {A0 A2 : Option Addr} {yss : List (List Int)} (w : World) (h0 : w.cell? ⟨b, o, none⟩ = some (.slice A0 n c0)) (hpos : 0 < N) (hy : yss.length = n2) (ha : RdSS w A2 yss) (hsys : okSys n yss = true) (hn : 0 < n) :
    Calls Try.prog 179 #[.agg #[.slice (some ⟨b, o, none⟩) N c], .slice A2 n2 c2] w (RetS w (labL yss n) (grtL (labL yss n))) := by
  have HC0 := Lib.hid (cell_al h0 (.cells #[.slice (some ⟨b, o, none⟩) N c] 51))
  have HA := Lib.hid (ha.al (.cells #[.slice (some ⟨b, o, none⟩) N c] 51))
  have HY := Lib.hid hy
  have HS := Lib.hid hsys
  have HG := Lib.hid (grtL_lab hsys hn)
  have hmb := mxL_lab hsys
  have hn2 : n2 ≤ 1048576 := by have := (sys_parts hsys).2.2.1; omega
  have hn4 := (sys_parts hsys).2.1
  have H1 := Lib.hid (show labR (n : Int) yss = labL yss n by simp [labR, hsys])
  clear h0 ha hy hsys
  go_enter Try.func179, Try.ntmps179
  go_wp2_with fail
  refine (flags_bel _ hpos HC0.out).mono ?_
  rintro e w1 ⟨rfl, bel⟩
  have BEL1 := Lib.hid ((below1 w (.cells #[.slice (some ⟨b, o, none⟩) N c] 51)).trans (bel.mono (by simp)))
  have HA1 := Lib.hid (HA.out.keep bel)
  clear bel
  go_wp2_with fail
  refine (iLab_any (n : Int) _ HY.out HA1.out hn2 (okSys_rows HS.out)).mono ?_
  rintro e w2 ⟨A3, c3, rfl, own, bel⟩
  rw [H1.out] at own ⊢
  rw [labL_length] at own ⊢
  have OWN := Lib.hid own
  have BEL2 := Lib.hid (BEL1.out.trans (bel.mono BEL1.out.size))
  have BS := Lib.hid BEL1.out.size
  clear own bel
  go_wp2_with fail
  refine (max_any _ (labL_length _ _) (own_rd OWN.out) hn (by omega) (fun x hx => (labL_in HS.out x hx).1)).mono ?_
  rintro e w3 ⟨rfl, rfl⟩
  go_wp2
  go_ret2
  exact ⟨A3, c3, by rw [labL_length, HG.out]; rfl, by rw [labL_length]; exact own_base OWN.out BS.out, BEL2.out⟩

set_option maxHeartbeats 3200000 in
theorem ifaces_any {b o c N n c0 i : Nat} {A0 : Option Addr} {xss : List (List Int)} (w : World) (hx : xss.length = N) (ha : RdSS w (some ⟨b, o, none⟩) xss) (hsys : okSys n xss = true) (h0 : w.cell? ⟨b, o, none⟩ = some (.slice A0 n c0)) (hi : i < N) (hcap : N ≤ c) (hc63 : c ≤ 9223372036854775807) (hn : 0 < n) :
    Calls Try.prog 129 #[.agg #[.slice (some ⟨b, o, none⟩) N c], .int .i64 i] w (RetS w (facL xss n i) (grtL (facL xss n i))) := by
  have hN := (sys_parts hsys).2.2.1
  have hlx : (xss.eraseIdx i).length = i + (N - (i + 1)) := by rw [List.length_eraseIdx, if_pos (by omega)]; omega
  have hte : xss.take i ++ xss.drop (i + 1) = xss.eraseIdx i := by rw [List.eraseIdx_eq_take_drop_succ]
  obtain ⟨v1, p1⟩ := part_of (n := i) (c := c) (by simp; omega) (rdSS_take (i := i) ha)
  have P1 := Lib.hid p1
  have HA := Lib.hid ha
  have HX := Lib.hid hx
  have HLX := Lib.hid hlx
  have HTE := Lib.hid hte
  have HSE := Lib.hid (okSys_erase hsys i)
  have HC0 := Lib.hid h0
  have hcb := (Bx.start w (.slice (some ⟨b, o, none⟩) N c) 51).cell
  have hpos : 0 < N := by omega
  have i0 : (0 : Int) ≤ (i : Int) := by omega
  have i1 : (i : Int) ≤ (c : Int) := by omega
  have i2 : (0 : Int) ≤ (i : Int) + 1 := by omega
  have i3 : (i : Int) + 1 ≤ (N : Int) := by omega
  have k1 : i ≤ 1048576 := by omega
  have k2 : N - (i + 1) ≤ 100 := by omega
  have k3 : i + (N - (i + 1)) ≤ 100000 := by omega
  have k4 : w.heap.size < (w.alloc (.cells #[.slice (some ⟨b, o, none⟩) N c] 51)).heap.size := by simp
  have i4 : IntKind.i64.wrap ((i : Int) + 1) = (i : Int) + 1 := IntWalk.i64_in _ (by omega)
  have i5 : ((i : Int) + 1).toNat = i + 1 := by omega
  by_cases hci : c = i + 1
  · obtain rfl : N = i + 1 := by omega
    subst hci
    have hdn : xss.drop (i + 1) = [] := List.drop_of_length_le (by omega)
    rw [hdn] at hte
    have HTE := Lib.hid hte
    have hlx' : (xss.eraseIdx i).length = i := by omega
    have HLX := Lib.hid hlx'
    have k3' : i + 0 ≤ 100000 := by omega
    clear hdn hlx'
    have i6 : (i : Int) ≤ (i : Int) + 1 := Int.le_add_one (Int.le_refl _)
    have i7 : (i : Int) < (i : Int) + 1 := Int.lt_add_one_iff.2 (Int.le_refl _)
    have p2 := part_nil (w := w) (b := b) (o := o) (c := 0)
    have P2 := Lib.hid p2
    clear ha hx hsys h0 p1 p2 hlx hte
    go_enter Try.func129, Try.ntmps129
    go_wp2_with fail
    go_region_held3 (fun w' => w'.cell? ⟨w.heap.size, 0, none⟩ = some (.slice (some ⟨b, o, none⟩) (i + 1) (i + 1))) (first | (exact hcb) | (exact q) | (go_keep; done))
      (first
        | (go_at_call 180
           have hb2 : Below w.heap.size w (((w.alloc (.cells #[.slice (some ⟨b, o, none⟩) (i + 1) (i + 1)] 51)).alloc (.cells #[.slice (some ⟨b, o, none⟩) i (i + 1), .slice (some ⟨b, o, none⟩) 0 0] 35)).drew) := below_drewN (below2 w _ _) 1
           have h9 := concat_any _ (P1.out.keep hb2) (P2.out.keep hb2) k1 (Nat.zero_le _) (g := w.heap.size + 1) (by simp) (by simp) k3'
           refine h9.mono ?_
           rintro e w1 ⟨A1, c1, rfl, rd, bel⟩
           have q := cell_be (cell_ald (Bx.start w (.slice (some ⟨b, o, none⟩) (i + 1) (i + 1)) 51).cell _) bel)
        | (go_at_call 179
           have rd2 := rd
           rw [HTE.out] at rd2
           refine (ilabels_any _ (cell_be (cell_be HC0.out hb2) bel) hpos HLX.out rd2 HSE.out hn).mono ?_
           rintro e w2 ⟨A2, c2, rfl, own, bel2⟩
           have q := cell_be (cell_be (cell_ald (Bx.start w (.slice (some ⟨b, o, none⟩) (i + 1) (i + 1)) 51).cell _) bel) bel2))
    go_wp2
    go_ret2
    exact ⟨A2, c2, rfl, own_base own (Nat.le_trans hb2.size bel.size), hb2.trans ((bel.mono hb2.size).trans (bel2.mono (Nat.le_trans hb2.size bel.size)))⟩
  · have hci' : i + 1 < c := by omega
    obtain ⟨v2, p2⟩ := part_of (n := N - (i + 1)) (c := c - (i + 1)) (by simp; omega) (rdSS_drop (i := i + 1) ha)
    have P2 := Lib.hid p2
    clear ha hx hsys h0 p1 p2 hlx hte
    go_enter Try.func129, Try.ntmps129
    go_wp2_with fail
    go_region_held3 (fun w' => w'.cell? ⟨w.heap.size, 0, none⟩ = some (.slice (some ⟨b, o, none⟩) N c)) (first | (exact hcb) | (exact q) | (go_keep; done))
      (first
        | (go_at_call 180
           have hb2 : Below w.heap.size w (((w.alloc (.cells #[.slice (some ⟨b, o, none⟩) N c] 51)).alloc (.cells #[.slice (some ⟨b, o, none⟩) i c, .slice (some ⟨b, o + (i + 1), none⟩) (N - (i + 1)) (c - (i + 1))] 35)).drew) := below_drewN (below2 w _ _) 1
           have h9 := concat_any _ (P1.out.keep hb2) (P2.out.keep hb2) k1 k2 (g := w.heap.size + 1) (by simp) (by simp) k3
           refine h9.mono ?_
           rintro e w1 ⟨A1, c1, rfl, rd, bel⟩
           have q := cell_be (cell_ald (Bx.start w (.slice (some ⟨b, o, none⟩) N c) 51).cell _) bel)
        | (go_at_call 179
           have rd2 := rd
           rw [HTE.out] at rd2
           refine (ilabels_any _ (cell_be (cell_be HC0.out hb2) bel) hpos HLX.out rd2 HSE.out hn).mono ?_
           rintro e w2 ⟨A2, c2, rfl, own, bel2⟩
           have q := cell_be (cell_be (cell_ald (Bx.start w (.slice (some ⟨b, o, none⟩) N c) 51).cell _) bel) bel2))
    go_wp2
    go_ret2
    exact ⟨A2, c2, rfl, own_base own (Nat.le_trans hb2.size bel.size), hb2.trans ((bel.mono hb2.size).trans (bel2.mono (Nat.le_trans hb2.size bel.size)))⟩
end Go.Proofs.Ytjkddoiacifhpaa
