/- Labels are numbered by least points; what FnFaces asks. -/
import Derived.Test.YtckmmgepoccopaaL18
import Derived.BigQuiet
namespace Go.Proofs.Ytckmmgepoccopaa
open Go.RowKit

section
variable {yss : List (List Int)} {n p q k : Nat}
theorem orbsTo_pre : ∀ d, orbsTo yss n k <+: orbsTo yss n (k + d)
  | 0 => List.prefix_refl _
  | d + 1 => (orbsTo_pre d).trans (by
    rw [← Nat.add_assoc]
    conv => rhs; unfold orbsTo
    split
    · exact List.prefix_refl _
    · exact List.prefix_append _ _)
theorem orbsTo_get {j : Nat} {o : List Int} (hk : k ≤ n) (h : (orbsTo yss n k)[j]? = some o) : (orbsTo yss n n)[j]? = some o := by
  obtain ⟨d, rfl⟩ := Nat.exists_eq_add_of_le hk
  obtain ⟨t, ht⟩ := orbsTo_pre (yss := yss) (n := k + d) (k := k) d
  rw [← ht, List.getElem?_append_left (List.getElem?_eq_some_iff.1 h).1]
  exact h
/-- The label of a point: an old one, or the next one. -/
theorem lab_next (hsys : okSys n yss = true) (hp : p < n) : ∃ j : Nat, (labL yss n)[p]? = some (j : Int) ∧ ((j < (orbsTo yss n p).length ∧ (orbsTo yss n (p + 1)).length = (orbsTo yss n p).length) ∨ (j = (orbsTo yss n p).length ∧ (orbsTo yss n (p + 1)).length = (orbsTo yss n p).length + 1)) := by
  by_cases hin : (p : Int) ∈ (orbsTo yss n p).flatten
  · obtain ⟨o, ho, hpo⟩ := List.mem_flatten.1 hin
    obtain ⟨j, hj, he⟩ := List.mem_iff_getElem.1 ho
    have hg : (orbsTo yss n p)[j]? = some o := by rw [List.getElem?_eq_getElem hj, he]
    exact ⟨j, (lab_iff hsys hp).2 ⟨o, orbsTo_get (by omega) hg, hpo⟩, .inl ⟨hj, by rw [orbsTo_in hin]⟩⟩
  · have h1 := orbsTo_out hin
    have hg : (orbsTo yss n (p + 1))[(orbsTo yss n p).length]? = some (orbL yss n p) := by rw [h1]; simp
    refine ⟨_, (lab_iff hsys hp).2 ⟨_, orbsTo_get (by omega) hg, (orb_facts hsys hp).2.1⟩, .inr ⟨rfl, by rw [h1]; simp⟩⟩
theorem grt_take (hsys : okSys n yss = true) : ∀ k, k ≤ n → grtL ((labL yss n).take k) = ((orbsTo yss n k).length : Int)
  | 0, _ => by simp [grtL, orbsTo]
  | k + 1, hk => by
    have ih := grt_take hsys k (by omega)
    obtain ⟨j, hj, h⟩ := lab_next hsys (p := k) (by omega)
    rw [grtL_succ hj, ih]
    rcases h with ⟨h1, h2⟩ | ⟨h1, h2⟩
    · rw [if_neg (by omega), h2]
    · rw [if_pos (by omega), h2, h1]
      omega
/-- A move leads to a point with the same label. -/
theorem lab_move {g : List Int} {x : Int} (hsys : okSys n yss = true) (hg : g ∈ yss) (hp : p < n) (hq : q < n) (hm : g[p]? = some (q : Int)) (hx : (labL yss n)[p]? = some x) : (labL yss n)[q]? = some x := by
  obtain ⟨j, hj⟩ := Int.eq_ofNat_of_zero_le (labL_in hsys x (List.mem_of_getElem? hx)).1
  subst hj
  obtain ⟨o, ho, hpo⟩ := (lab_iff hsys hp).1 hx
  refine (lab_iff hsys hq).2 ⟨o, ho, ?_⟩
  obtain ⟨r, hr, rfl⟩ := orbsTo_of n (List.mem_of_getElem? ho)
  have := (orb_facts hsys hr).2.2 g hg _ hpo
  rwa [fz_at hm] at this
end
section
variable {xss : List (List Int)} {n i k f q : Nat} {g : List Int} {x : Int}
theorem fac_next (hsys : okSys n xss = true) (hf : f < n) : ∃ j : Nat, (facL xss n i)[f]? = some (j : Int) ∧ ((j < (orbsTo (xss.eraseIdx i) n f).length ∧ (orbsTo (xss.eraseIdx i) n (f + 1)).length = (orbsTo (xss.eraseIdx i) n f).length) ∨ (j = (orbsTo (xss.eraseIdx i) n f).length ∧ (orbsTo (xss.eraseIdx i) n (f + 1)).length = (orbsTo (xss.eraseIdx i) n f).length + 1)) :=
  lab_next (okSys_erase hsys i) hf
theorem fac_move (hsys : okSys n xss = true) (hg : xss[k]? = some g) (hki : k ≠ i) (hf : f < n) (hq : q < n) (hm : g[f]? = some (q : Int)) (hx : (facL xss n i)[f]? = some x) : (facL xss n i)[q]? = some x := by
  refine lab_move (okSys_erase hsys i) ?_ hf hq hm hx
  refine List.mem_iff_getElem?.2 ?_
  by_cases h : k < i
  · exact ⟨k, by rw [List.getElem?_eraseIdx, if_pos h]; exact hg⟩
  · refine ⟨k - 1, ?_⟩
    rw [List.getElem?_eraseIdx, if_neg (by omega), show k - 1 + 1 = k by omega]
    exact hg
theorem fac_cnt (hsys : okSys n xss = true) (hn : 0 < n) : grtL (facL xss n i) = ((orbsTo (xss.eraseIdx i) n n).length : Int) := lab_cnt (okSys_erase hsys i) hn
theorem orbsTo_le (hsys : okSys n xss = true) (hk : k ≤ n) : (orbsTo (xss.eraseIdx i) n k).length ≤ k := (orbsTo_facts (okSys_erase hsys i) k hk).2.2.1
end
section
variable {A : Option Addr} {n c : Nat} {bs : List Value}
set_option maxHeartbeats 1600000 in
theorem drawFc (w : World) (hl : bs.length = n) (hr : Rd w A bs) (hu : ∀ v ∈ bs, ∃ x : Nat, v = .int .u8 x ∧ x < 256) (hn : n ≤ 1048576) :
    Calls Try.prog 17 #[.slice A n c] w (RetX w) := by
  have HR := Lib.hid (hr.keep ((Below.refl _ _).alloc (Nat.le_refl _) (.cells #[.slice none 0 0] 26)))
  have HL := Lib.hid hl
  have HU := Lib.hid hu
  have S0 := Lib.hid ((St.start w).addBlk #[.slice none 0 0] 26)
  clear hl hr hu
  go_enter Try.func17, Try.ntmps17
  go_wp2_with fail
  refine (from_any _ HL.out HR.out HU.out hn).mono ?_
  rintro e w1 ⟨g, at', h', rfl, hg, hg1, src, bel⟩
  have HS := Lib.hid (show SrcE (w1.alloc (.cells #[.int .i64 40, .int .i64 40, .int .i64 100, .int .i64 400] 2)) g A n c bs from SrcE.alloc ⟨at', h', src⟩ _)
  have BEL := Lib.hid (bel.trans ((below1 w1 (.cells #[.int .i64 40, .int .i64 40, .int .i64 100, .int .i64 400] 2)).mono bel.size))
  have Q := Lib.hid (show ∀ b o, some (⟨w1.heap.size, 0, none⟩ : Addr) = some ⟨b, o, none⟩ → b < g ∨ g + 1 ≤ b from fun b o e => by simp at e; omega)
  clear src bel
  go_wp2_with fail
  refine (pickE (m := 4) (c2 := 4) (xs := [40, 40, 100, 400]) _ HS.out hn rfl (by decide) (by decide) (lit_rd w1 _ _) Q.out).mono ?_
  rintro e w2 ⟨r, rfl, hm, hs2, tu2⟩
  obtain ⟨most, hmost, h8, h4⟩ : ∃ most : Nat, r = (most : Int) ∧ 8 ≤ most ∧ most ≤ 400 := by
    simp at hm
    rcases hm with rfl | rfl | rfl
    · exact ⟨40, rfl, by decide, by decide⟩
    · exact ⟨100, rfl, by decide, by decide⟩
    · exact ⟨400, rfl, by decide, by decide⟩
  subst hmost
  have BEL2 := Lib.hid (Turns.below BEL.out tu2 BEL.out.size hg)
  have HS2 := Lib.hid hs2
  clear hs2 tu2 hm
  go_wp2_with fail
  refine (spoil2P (most := most) _ HS2.out hn h8 h4).mono ?_
  rintro e w3 ⟨wb, A', N, c', xss, rfl, hl, hN, hR, hc, hc63, d, st⟩
  obtain ⟨tu, sep⟩ := d.fin st
  have S2 := Lib.hid (S0.out.go (Turns.below BEL2.out tu BEL2.out.size hg))
  have HX := Lib.hid hl
  have HRR := Lib.hid hR
  have SEP := Lib.hid sep
  have hlt : w.heap.size < w2.heap.size := by have := BEL2.out.size; simp at this; omega
  have z0 := (S2.out.blk (i := 0) rfl).cell (i := 0) rfl
  have f0 := (S2.out.blk (i := 0) rfl).free 0
  clear hl hR d st tu sep
  go_wp2
  have st4 := S2.out.blkSet (i := 0) rfl 0 (.slice A' N c')
  have y0 := (st4.blk (i := 0) rfl).cell (i := 0) rfl
  exact bodyPost_ret (v := .agg #[.slice A' N c']) (by simp [results, Try.results17, go_sem, y0]) rfl ⟨A', N, c', xss, rfl, HX.out, hN, fun xs hx => by have := HRR.out xs hx; omega, hc, hc63, rds_set SEP.out hlt, st4.below⟩
end
end Go.Proofs.Ytckmmgepoccopaa
