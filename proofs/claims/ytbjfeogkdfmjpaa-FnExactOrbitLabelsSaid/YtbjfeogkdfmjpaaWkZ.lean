import Derived.Test.YtbjfeogkdfmjpaaWkV
import Derived.Test.YtbjfeogkdfmjpaaWkW
namespace Go.Proofs.Ytbjfeogkdfmjpaa
open Go.RowKit

def fillL (n : Nat) : List Int := List.replicate n (-1)
theorem unlab_fill (n : Nat) : Unlab (fillL n) n [] := fun p hp _ => by simp [fillL, hp]
/-- The labels of the spec's walk: labelled points are those in orbits. -/
structure LSt (xss : List (List Int)) (n k : Nat) (D : List Int) (cnt : Nat) : Prop where
  lab : LabOk D (orbsTo xss n k)
  un : Unlab D n (orbsTo xss n k).flatten
  cn : cnt = (orbsTo xss n k).length
  len : D.length = n
theorem lst_at {xss : List (List Int)} {n k : Nat} {D : List Int} {cnt : Nat} (h : LSt xss n k D cnt) (hk : k < n) :
    ∃ v : Int, D[k]? = some v ∧ (((k : Int) ∈ (orbsTo xss n k).flatten ∧ 0 ≤ v) ∨ (¬ (k : Int) ∈ (orbsTo xss n k).flatten ∧ v < 0)) := by
  by_cases hm : (k : Int) ∈ (orbsTo xss n k).flatten
  · obtain ⟨o, ho, hko⟩ := List.mem_flatten.1 hm
    obtain ⟨i, hi, rfl⟩ := List.mem_iff_getElem.1 ho
    exact ⟨_, h.lab i _ (List.getElem?_eq_getElem hi) k hko, .inl ⟨hm, by omega⟩⟩
  · exact ⟨-1, h.un k hk hm, .inr ⟨hm, by omega⟩⟩
/-- Under way in one orbit. -/
structure LIn (xss : List (List Int)) (n k j : Nat) (D : List Int) : Prop where
  lab : LabOk D (orbsTo xss n k)
  un : Unlab D n ((orbsTo xss n k).flatten ++ (orbL xss n k).take j)
  new : NewOk D ((orbL xss n k).take j) (orbsTo xss n k).length
  len : D.length = n
theorem lin_start {xss : List (List Int)} {n k : Nat} {D : List Int} {cnt : Nat} (h : LSt xss n k D cnt) : LIn xss n k 0 D := ⟨h.lab, by simpa using h.un, by simpa using newOk_nil _ _, h.len⟩
theorem lin_step {xss : List (List Int)} {n k j p : Nat} {D : List Int} (h : LIn xss n k j D) (hps : Passed n ((orbsTo xss n k).flatten ++ orbL xss n k)) (hp : (orbL xss n k)[j]? = some (p : Int)) (hpn : p < n) :
    LIn xss n k (j + 1) (D.set p ((orbsTo xss n k).length : Int)) := by
  have hm := List.mem_of_getElem? hp
  have hno : ¬ (p : Int) ∈ (orbsTo xss n k).flatten := fun h1 => (List.nodup_append.1 hps.2).2.2 _ h1 _ hm rfl
  refine ⟨lab_set h.lab hno, ?_, ?_, by simp [h.len]⟩
  · rw [take_succ_of hp, ← List.append_assoc]; exact unlab_set h.un
  · rw [take_succ_of hp]; exact new_set h.new (by rw [h.len]; exact hpn)
theorem lin_end {xss : List (List Int)} {n k j : Nat} {D : List Int} (h : LIn xss n k j D) (hj : (orbL xss n k).length ≤ j) (hk : ¬ (k : Int) ∈ (orbsTo xss n k).flatten) : LSt xss n (k + 1) D ((orbsTo xss n k).length + 1) := by
  have e := List.take_of_length_le hj
  obtain ⟨h1, h2, h3, h4⟩ := h
  rw [e] at h2 h3
  refine ⟨by rw [orbsTo_out hk]; exact lab_snoc h1 h3, ?_, by rw [orbsTo_out hk]; simp, h4⟩
  rw [orbsTo_out hk, List.flatten_append]
  simpa using h2
theorem lst_skip {xss : List (List Int)} {n k : Nat} {D : List Int} {cnt : Nat} (h : LSt xss n k D cnt) (hk : (k : Int) ∈ (orbsTo xss n k).flatten) : LSt xss n (k + 1) D cnt := by
  obtain ⟨h1, h2, h3, h4⟩ := h
  rw [← orbsTo_in hk] at h1 h2 h3
  exact ⟨h1, h2, h3, h4⟩
theorem orb_at {xss : List (List Int)} {n k j : Nat} (hsys : okSys n xss = true) (hk : k < n) (hj : j < (orbL xss n k).length) : ∃ p : Nat, (orbL xss n k)[j]? = some (p : Int) ∧ p < n := by
  have h1 := List.getElem?_eq_getElem hj
  have h2 := (orb_passed hsys hk).1 _ (List.mem_of_getElem? h1)
  obtain ⟨p, hp⟩ := Int.eq_ofNat_of_zero_le h2.1
  exact ⟨p, by rw [h1, hp], by omega⟩
theorem orbs_cnt {xss : List (List Int)} {n k : Nat} (hsys : okSys n xss = true) (hk : k ≤ n) : (orbsTo xss n k).length ≤ n := Nat.le_trans (orbsTo_facts hsys k hk).2.2.1 hk

set_option maxHeartbeats 3200000 in
theorem sorbs_any {A : Option Addr} {c N n : Nat} {xss : List (List Int)} (w : World) (hx : xss.length = N) (ha : RdSS w A xss) (hN : N ≤ 1048576) (hsys : okSys n xss = true) :
    Calls Try.prog 87 #[.int .i64 n, .slice A N c] w (RetN w (labL xss n) n) := by
  have HX := Lib.hid hx
  have HA := Lib.hid ha
  have HS := Lib.hid hsys
  have hn4 := (sys_parts hsys).2.1
  clear hx ha hsys
  go_enter Try.func87, Try.ntmps87
  go_wp2
  go_loopw [5, 6] (fun v i wr => ∃ k : Nat, k ≤ n ∧ i = .int .i64 k ∧ ∃ A' c', v = .slice A' k c' ∧ wr.ownsRow w.heap.size 2 1 (.slice A' k c') k (ints (fillL k)) ∧ Below w.heap.size w wr) (fun _ i _ => n - (intOf i).toNat)
  case atStart => exact ⟨0, Nat.zero_le _, rfl, _, _, rfl, by simpa [fillL] using World.ownsRow_made (base := w.heap.size) (e := 2) (size := 1) w #[] 0 (Nat.le_refl _) (Nat.zero_le _) (by simp), (Below.refl _ _).alloc (Nat.le_refl _) _⟩
  case round =>
    obtain ⟨k, hk, rfl, A', c', rfl, own, bel⟩ := hrel
    have OWN := Lib.hid own
    have BEL := Lib.hid bel
    have hsz := bel.size
    clear own bel
    by_cases hlt : k < n
    · go_wp2_with (at_builtin; refine wpList_push _ rfl _ _ 24 2 rfl Try.underlying24 (.int .i64 0) 8 Try.info2 rfl w.heap.size _ _ _ rfl OWN.out _ rfl rfl (by omega) (by omega) (by omega) ?_)
      intro A3 c3 w3 own3 bel3 _
      have OWN3 := Lib.hid own3
      have BEL3 := Lib.hid bel3
      clear own3 bel3
      go_wp2
      go_roundw
      case rel => exact ⟨k + 1, by omega, by go_num, A3, c3, rfl, by unfold fillL; rw [List.replicate_succ']; simpa [fillL] using OWN3.out, BEL.out.trans BEL3.out⟩
      case measure => simp [intOf]; omega
    · obtain rfl : k = n := by omega
      have ST := Lib.hid (show LSt xss k 0 (fillL k) 0 from ⟨by simpa [orbsTo] using labOk_nil _, by simpa [orbsTo] using unlab_fill k, by simp [orbsTo], by simp [fillL]⟩)
      go_wp2
      clear hk hlt hsz
      obtain ⟨w2, rfl⟩ : ∃ w2 : World, w2 = wr := ⟨_, rfl⟩
      go_loopw [7, 8] (fun v q wr => ∃ (i cnt : Nat) (D : List Int), i ≤ k ∧ q = .int .i64 i ∧ v = .int .i64 cnt ∧ wr.ownsRow w.heap.size 2 1 (.slice A' k c') k (ints D) ∧ Below w.heap.size w wr ∧ LSt xss k i D cnt) (fun _ q _ => k - (intOf q).toNat)
      case atStart => exact ⟨0, 0, _, Nat.zero_le _, rfl, rfl, OWN.out, BEL.out, ST.out⟩
      case round =>
        obtain ⟨i, cnt, D, hi, rfl, rfl, own, bel, st⟩ := hrel
        have OWN2 := Lib.hid own
        have BEL2 := Lib.hid bel
        have S := Lib.hid st
        clear own bel st ST
        by_cases hlt : i < k
        · obtain ⟨v, hv, hvm⟩ := lst_at S.out hlt
          obtain ⟨g, rfl⟩ := own_shape OWN2.out (by omega)
          have hcell := own_cell OWN2.out (show (ints D)[i]? = some (.int .i64 v) by simp [hv])
          rcases hvm with ⟨hm, hv0⟩ | ⟨hm, hv0⟩
          · have S2 := Lib.hid (lst_skip S.out hm)
            clear hm hv
            go_wp2
            go_roundw
            case rel => exact ⟨i + 1, cnt, D, by omega, by go_num, rfl, OWN2.out, BEL2.out, S2.out⟩
            case measure => simp [intOf]; omega
          · have HM := Lib.hid hm
            have hps := (orb_aside HS.out (orbsTo_facts HS.out i (by omega)).1 (orbsTo_facts HS.out i (by omega)).2.1 hlt hm).2.1
            have HPS := Lib.hid hps
            have hol := passed_len (orb_passed HS.out hlt)
            obtain ⟨m, hml⟩ : ∃ m, (orbL xss k i).length = m := ⟨_, rfl⟩
            have HML := Lib.hid hml
            rw [hml] at hol
            have hcn := S.out.cn
            have hcb := orbs_cnt HS.out hi
            rw [← hcn] at hcb
            have HCN := Lib.hid hcn
            clear hm hv hps hml hcn
            go_wp2_with fail
            refine (sorb_any wr HX.out (HA.out.keep BEL2.out) hN HS.out hlt).mono ?_
            rintro e w3 ⟨A3, c3, rfl, own3, bel3⟩
            rw [HML.out] at own3 ⊢
            have OWN3 := Lib.hid own3
            have IN3 := Lib.hid (own_in own3)
            have OWNB := Lib.hid (own_below OWN2.out bel3 (Nat.le_refl _))
            have INB := Lib.hid (inB_wide (own_in OWN2.out) (Nat.le_refl _) (Nat.le_refl _))
            have BEL3 := Lib.hid (BEL2.out.trans (bel3.mono BEL2.out.size))
            have LI := Lib.hid (lin_start S.out)
            have hsz3 := bel3.size
            clear own3 bel3
            have hglo := (OWN2.out.lt g rfl).1
            obtain ⟨wo, rfl⟩ : ∃ wo : World, wo = wr := ⟨_, rfl⟩
            go_wp2
            go_loopw [10] (fun q wi => ∃ (j : Nat) (D : List Int), j ≤ m ∧ q = .int .i64 j ∧ wi.ownsRow w.heap.size 2 1 (.slice (some ⟨g, 0, none⟩) k c') k (ints D) ∧ wi.ownsRow wo.heap.size 2 1 (.slice A3 m c3) m (ints (orbL xss k i)) ∧ Below w.heap.size w wi ∧ LIn xss k i j D) (fun q _ => m - (intOf q).toNat)
            case atStart => exact ⟨0, D, Nat.zero_le _, rfl, OWNB.out, OWN3.out, BEL3.out, LI.out⟩
            case round =>
              obtain ⟨j, D2, hj, rfl, own4, own5, bel4, li⟩ := hrel
              have OWN4 := Lib.hid own4
              have OWN5 := Lib.hid own5
              have BEL4 := Lib.hid bel4
              have LIJ := Lib.hid li
              clear own4 own5 bel4 li LI BEL3 OWN3 OWNB
              by_cases hjm : j < m
              · obtain ⟨p, hp, hpk⟩ := orb_at HS.out hlt (show j < (orbL xss k i).length by rw [HML.out]; exact hjm)
                obtain ⟨b, o, x, rfl, hgx, hcx⟩ := (own_rd OWN5.out).int (k := j) (by rw [HML.out]; exact hjm)
                rw [hp] at hgx
                injection hgx with hgx
                subst hgx
                obtain ⟨u, hu⟩ := ints_at LIJ.out.len hpk
                have hcl := own_cell OWN4.out hu
                have hfz := OWN4.out.frozenAt p
                have hst := OWN4.out.stored p (.int .i64 cnt)
                have O6 := Lib.hid hst.1
                have O7 := Lib.hid (own_apart (v := .slice (some ⟨g, 0, none⟩) k c') OWN5.out hst.2 IN3.out INB.out (.inr (Nat.le_refl _)))
                have B6 := Lib.hid (BEL4.out.setCell (p := ⟨g, p, none⟩) hglo (.int .i64 cnt))
                have L6 := Lib.hid (show LIn xss k i (j + 1) (D2.set p (cnt : Int)) by rw [HCN.out]; exact lin_step LIJ.out HPS.out hp hpk)
                clear hst hp hu
                go_wp2
                go_roundw
                case rel => exact ⟨j + 1, D2.set p (cnt : Int), by omega, by go_num, by have h := O6.out; rwa [ints_set] at h, O7.out, B6.out, L6.out⟩
                case measure => simp [intOf]; omega
              · have LE := Lib.hid (lin_end LIJ.out (by rw [HML.out]; omega) HM.out)
                go_wp2
                go_roundw
                case rel => exact ⟨i + 1, cnt + 1, D2, by omega, by go_num, by go_num, OWN4.out, BEL4.out, by rw [HCN.out]; exact LE.out⟩
                case measure => simp [intOf]; omega
        · obtain rfl : i = k := by omega
          have HE := Lib.hid (lab_all HS.out S.out.len S.out.lab)
          have h := OWN2.out
          rw [HE.out] at h
          have HO := Lib.hid h
          clear h
          go_wp2
          go_ret
          exact ⟨A', c', rfl, HO.out, BEL2.out⟩
theorem sLab_any {A : Option Addr} {c N : Nat} {xss : List (List Int)} (n : Int) (w : World) (hx : xss.length = N) (ha : RdSS w A xss) (hN : N ≤ 1048576) (hr : ∀ xs ∈ xss, (xs.length : Int) ≤ 1048576) :
    Calls Try.prog 39 #[.int .i64 n, .slice A N c] w (RetS w (labR n xss) (sysC n xss)) := by
  have HX := Lib.hid hx
  have HA := Lib.hid ha
  have HR := Lib.hid hr
  clear hx ha hr
  cases hs : okSys n xss
  · have h1 : labR n xss = [] := by simp [labR, hs]
    have h2 : sysC n xss = 1 := by simp [sysC, hs]
    have h3 := Lib.hid h2
    rw [h1, h2]
    clear h1 h2 hs
    go_enter Try.func39, Try.ntmps39
    go_wp2_with fail
    refine (ssys_any n w HX.out HA.out hN HR.out).mono ?_
    rintro e w1 ⟨rfl, bel⟩
    rw [h3.out]
    have BEL := Lib.hid bel
    clear bel
    go_wp2
    go_ret2
    exact ⟨none, 0, rfl, World.ownsRow_nil _ _ _ _, BEL.out⟩
  · obtain ⟨m, rfl⟩ := Int.eq_ofNat_of_zero_le (sys_parts hs).1
    have h1 : labR (m : Int) xss = labL xss m := by simp [labR, hs]
    have h2 : sysC (m : Int) xss = 0 := by simp [sysC, hs]
    have h3 := Lib.hid h2
    have HS := Lib.hid hs
    rw [h1, h2]
    clear h1 h2 hs
    go_enter Try.func39, Try.ntmps39
    go_wp2_with fail
    refine (ssys_any _ w HX.out HA.out hN HR.out).mono ?_
    rintro e w1 ⟨rfl, bel⟩
    rw [h3.out]
    have BEL := Lib.hid bel
    clear bel
    go_wp2_with fail
    refine (sorbs_any w1 HX.out (HA.out.keep BEL.out) hN HS.out).mono ?_
    rintro e w2 ⟨A2, c2, rfl, own, bel⟩
    have OWN := Lib.hid own
    have BEL2 := Lib.hid bel
    clear own bel
    go_wp2
    go_ret2
    exact ⟨A2, c2, by rw [labL_length]; rfl, by rw [labL_length]; exact own_base OWN.out BEL.out.size, BEL.out.trans (BEL2.out.mono BEL.out.size)⟩

structure ISt (w1 wr : World) (xss : List (List Int)) (n k : Nat) (D : List Int) (cnt : Nat) : Prop where
  lab : LabOk D (orbsTo xss n k)
  cn : cnt = (orbsTo xss n k).length
  len : D.length = n
  own : wr.ownsRow w1.heap.size 2 1 (.slice (some ⟨w1.heap.size, 0, none⟩) n n) n (ints D)
  seen : wr.ownsRow w1.heap.size 4 1 (.slice (some ⟨w1.heap.size + 1, 0, none⟩) n n) n (seenL n (orbsTo xss n k).flatten)
  bel : Below w1.heap.size w1 wr
structure IIn (w1 wo wr : World) (xss : List (List Int)) (n k j : Nat) (D : List Int) (A3 : Option Addr) (m c3 hi : Nat) : Prop where
  lab : LabOk D (orbsTo xss n k)
  new : NewOk D ((orbL xss n k).take j) (orbsTo xss n k).length
  len : D.length = n
  own : wr.ownsRow w1.heap.size 2 1 (.slice (some ⟨w1.heap.size, 0, none⟩) n n) n (ints D)
  seen : wr.ownsRow w1.heap.size 4 1 (.slice (some ⟨w1.heap.size + 1, 0, none⟩) n n) n (seenL n ((orbsTo xss n k).flatten ++ orbL xss n k))
  orb : wr.ownsRow wo.heap.size 2 1 (.slice A3 m c3) m (ints (orbL xss n k))
  oin : InB (.slice A3 m c3) wo.heap.size hi
  lo : w1.heap.size + 1 ≤ wo.heap.size
  bel : Below w1.heap.size w1 wr
theorem ist_skip {w1 wr : World} {xss : List (List Int)} {n k : Nat} {D : List Int} {cnt : Nat} (h : ISt w1 wr xss n k D cnt) (hk : (k : Int) ∈ (orbsTo xss n k).flatten) : ISt w1 wr xss n (k + 1) D cnt := by
  obtain ⟨h1, h2, h3, h4, h5, h6⟩ := h
  rw [← orbsTo_in hk] at h1 h2 h5
  exact ⟨h1, h2, h3, h4, h5, h6⟩
theorem iin_start {w1 wo w3 : World} {xss : List (List Int)} {n k cnt m c3 : Nat} {A3 : Option Addr} {D : List Int} (h : ISt w1 wo xss n k D cnt)
    (own3 : w3.ownsRow wo.heap.size 2 1 (.slice A3 m c3) m (ints (orbL xss n k)))
    (seen3 : w3.ownsRow w1.heap.size 4 1 (.slice (some ⟨w1.heap.size + 1, 0, none⟩) n n) n (seenL n ((orbsTo xss n k).flatten ++ orbL xss n k))) (tu : Turns (w1.heap.size + 1) (w1.heap.size + 1 + 1) wo w3) :
    IIn w1 wo w3 xss n k 0 D A3 m c3 w3.heap.size := by
  have hlo := (h.seen.lt (w1.heap.size + 1) rfl).2
  refine ⟨h.lab, by simpa using newOk_nil _ _, h.len, tu.own h.own (lo' := w1.heap.size) (hi' := w1.heap.size + 1) (fun k hk => by simp [Value.ownBlock] at hk; omega) (.inl (Nat.le_refl _)), seen3, own3, own_in own3, by omega, tu.below h.bel h.bel.size (by omega)⟩
theorem iin_step {w1 wo wr : World} {xss : List (List Int)} {n k j p cnt m c3 hi : Nat} {A3 : Option Addr} {D : List Int} (h : IIn w1 wo wr xss n k j D A3 m c3 hi) (hc : cnt = (orbsTo xss n k).length) (hps : Passed n ((orbsTo xss n k).flatten ++ orbL xss n k)) (hp : (orbL xss n k)[j]? = some (p : Int)) (hpn : p < n) :
    IIn w1 wo (wr.setCell ⟨w1.heap.size, p, none⟩ (.int .i64 cnt)) xss n k (j + 1) (D.set p (cnt : Int)) A3 m c3 hi := by
  have hm := List.mem_of_getElem? hp
  have hno : ¬ (p : Int) ∈ (orbsTo xss n k).flatten := fun h1 => (List.nodup_append.1 hps.2).2.2 _ h1 _ hm rfl
  have hst := h.own.stored p (.int .i64 cnt)
  subst hc
  refine ⟨lab_set h.lab hno, ?_, by simp [h.len], ?_, h.seen.kept hst.2 (own_ne h.seen h.own (by decide)), ?_, h.oin, h.lo, h.bel.setCell (Nat.le_refl _) _⟩
  · rw [take_succ_of hp]; exact new_set h.new (by rw [h.len]; exact hpn)
  · have h1 := hst.1; rwa [ints_set] at h1
  · exact own_apart (v := .slice (some ⟨w1.heap.size, 0, none⟩) n n) (lo' := w1.heap.size) (hi' := w1.heap.size + 1) h.orb hst.2 h.oin (fun k hk => by simp [Value.ownBlock] at hk; omega) (.inr h.lo)
theorem iin_end {w1 wo wr : World} {xss : List (List Int)} {n k j m c3 hi : Nat} {A3 : Option Addr} {D : List Int} (h : IIn w1 wo wr xss n k j D A3 m c3 hi) (hj : (orbL xss n k).length ≤ j) (hk : ¬ (k : Int) ∈ (orbsTo xss n k).flatten) : ISt w1 wr xss n (k + 1) D ((orbsTo xss n k).length + 1) := by
  have e := List.take_of_length_le hj
  obtain ⟨h1, h3, h4, h5, h6, _, _, _, h9⟩ := h
  rw [e] at h3
  refine ⟨by rw [orbsTo_out hk]; exact lab_snoc h1 h3, by rw [orbsTo_out hk]; simp, h4, h5, ?_, h9⟩
  rw [orbsTo_out hk, List.flatten_append]
  simpa using h6
theorem ist_start (w1 : World) (xss : List (List Int)) (n : Nat) (hn : n ≤ 9223372036854775807) :
    ISt w1 ((w1.alloc (.cells (madeCells #[.int .i64 0] n) 2)).alloc (.cells (madeCells #[.bool false] n) 4)) xss n 0 (List.replicate n 0) 0 := by
  have h1 := make_own w1 (.int .i64 0) n 2 (by unfold maxLen; omega)
  have h2 := seen_start (w1.alloc (.cells (madeCells #[.int .i64 0] n) 2)) n hn
  have hs : (w1.alloc (Obj.cells (madeCells #[.int .i64 0] n) 2)).heap.size = w1.heap.size + 1 := by simp
  rw [hs] at h2
  exact ⟨by simpa [orbsTo] using labOk_nil _, by simp [orbsTo], by simp, by simpa using h1.alloc _, by simpa [orbsTo] using own_base h2 (Nat.le_succ _), ((Below.refl _ _).alloc (Nat.le_refl _) _).alloc (by simp) _⟩

set_option maxHeartbeats 3200000 in
theorem iLab_any {A : Option Addr} {c N : Nat} {xss : List (List Int)} (n : Int) (w : World) (hx : xss.length = N) (ha : RdSS w A xss) (hN : N ≤ 1048576) (hr : ∀ xs ∈ xss, (xs.length : Int) ≤ 1048576) :
    Calls Try.prog 38 #[.int .i64 n, .slice A N c] w (RetS w (labR n xss) (sysC n xss)) := by
  have HX := Lib.hid hx
  have HA := Lib.hid ha
  have HR := Lib.hid hr
  clear hx ha hr
  cases hs : okSys n xss
  · have h1 : labR n xss = [] := by simp [labR, hs]
    have h2 : sysC n xss = 1 := by simp [sysC, hs]
    have HS := Lib.hid hs
    rw [h1, h2]
    clear h1 h2 hs
    go_enter Try.func38, Try.ntmps38
    go_wp2_with fail
    refine (isys_any n w HX.out HA.out hN HR.out).mono ?_
    rintro e w1 ⟨rfl, bel⟩
    rw [HS.out]
    have BEL := Lib.hid bel
    clear bel
    go_wp2
    go_ret2
    exact ⟨none, 0, rfl, World.ownsRow_nil _ _ _ _, BEL.out⟩
  obtain ⟨m, rfl⟩ := Int.eq_ofNat_of_zero_le (sys_parts hs).1
  have hn4 := (sys_parts hs).2.1
  have h1 : labR (m : Int) xss = labL xss m := by simp [labR, hs]
  have h2 : sysC (m : Int) xss = 0 := by simp [sysC, hs]
  have HS := Lib.hid hs
  rw [h1, h2]
  clear h1 h2 hs
  have hmk := run_make_row' (P := Try.prog) 24 2 (.int .i64 0) 8 Try.underlying24 Try.info2 rfl .i64 .i64 m (by omega) (by omega)
  have hmk2 := run_make_row' (P := Try.prog) 54 4 (.bool false) 1 Try.underlying54 Try.infoB rfl .i64 .i64 m (by omega) (by omega)
  go_enter Try.func38, Try.ntmps38
  go_wp2_with fail
  refine (isys_any _ w HX.out HA.out hN HR.out).mono ?_
  rintro e w1 ⟨rfl, bel⟩
  rw [HS.out]
  have BEL := Lib.hid bel
  have HA1 := Lib.hid (HA.out.keep bel)
  have ST := Lib.hid (ist_start w1 xss m (by omega))
  clear bel
  go_wp2
  clear hmk hmk2
  go_loopw [8, 21] (fun v q wr => ∃ (i cnt : Nat) (D : List Int), i ≤ m ∧ q = .int .i64 i ∧ v = .int .i64 cnt ∧ ISt w1 wr xss m i D cnt) (fun _ q _ => m - (intOf q).toNat)
  case atStart => exact ⟨0, 0, _, Nat.zero_le _, rfl, rfl, ST.out⟩
  case round =>
    obtain ⟨i, cnt, D, hi, rfl, rfl, st⟩ := hrel
    have S := Lib.hid st
    clear st ST
    by_cases hlt : i < m
    · have hcs := own_cell S.out.seen (seenL_at hlt)
      by_cases hm : (i : Int) ∈ (orbsTo xss m i).flatten
      · rw [decide_eq_true hm] at hcs
        have S2 := Lib.hid (ist_skip S.out hm)
        clear hm
        go_wp2
        go_roundw
        case rel => exact ⟨i + 1, cnt, D, by omega, by go_num, rfl, S2.out⟩
        case measure => simp [intOf]; omega
      · rw [decide_eq_false hm] at hcs
        have HM := Lib.hid hm
        have hof := orbsTo_facts HS.out i (by omega)
        have HPS := Lib.hid ((orb_aside HS.out hof.1 hof.2.1 hlt hm).2.1)
        have HOF := Lib.hid hof
        have hol := passed_len (orb_passed HS.out hlt)
        obtain ⟨l, hml⟩ : ∃ l, (orbL xss m i).length = l := ⟨_, rfl⟩
        have HML := Lib.hid hml
        rw [hml] at hol
        have hcn := S.out.cn
        have hcb := orbs_cnt HS.out hi
        rw [← hcn] at hcb
        have HCN := Lib.hid hcn
        clear hm hml hcn hof
        go_wp2_with fail
        refine (iorb_any w1 wr HX.out HA1.out S.out.bel (Nat.le_succ _) hN HS.out hlt HOF.out.1 HOF.out.2.1 HM.out S.out.seen).mono ?_
        rintro e w3 ⟨A3, c3, rfl, own3, seen3, tu3⟩
        rw [HML.out] at own3 ⊢
        have LI := Lib.hid (iin_start S.out own3 seen3 tu3)
        obtain ⟨hi3, hh3⟩ : ∃ hi3, w3.heap.size = hi3 := ⟨_, rfl⟩
        rw [hh3] at LI
        obtain ⟨wo, rfl⟩ : ∃ wo : World, wo = wr := ⟨_, rfl⟩
        clear own3 seen3 tu3 hh3 hcs
        go_wp2
        go_loopw [33] (fun q wi => ∃ (j : Nat) (D : List Int), j ≤ l ∧ q = .int .i64 j ∧ IIn w1 wo wi xss m i j D A3 l c3 hi3) (fun q _ => l - (intOf q).toNat)
        case atStart => exact ⟨0, D, Nat.zero_le _, rfl, LI.out⟩
        case round =>
          obtain ⟨j, D2, hj, rfl, li⟩ := hrel
          have LIJ := Lib.hid li
          clear li LI
          by_cases hjm : j < l
          · obtain ⟨p, hp, hpk⟩ := orb_at HS.out hlt (show j < (orbL xss m i).length by rw [HML.out]; exact hjm)
            obtain ⟨b, o, x, rfl, hgx, hcx⟩ := (own_rd LIJ.out.orb).int (k := j) (by rw [HML.out]; exact hjm)
            rw [hp] at hgx
            injection hgx with hgx
            subst hgx
            obtain ⟨u, hu⟩ := ints_at LIJ.out.len hpk
            have hcl := own_cell LIJ.out.own hu
            have hfz := LIJ.out.own.frozenAt p
            have L6 := Lib.hid (iin_step LIJ.out HCN.out HPS.out hp hpk)
            clear hp hu
            go_wp2
            go_roundw
            case rel => exact ⟨j + 1, D2.set p (cnt : Int), by omega, by go_num, L6.out⟩
            case measure => simp [intOf]; omega
          · have LE := Lib.hid (iin_end LIJ.out (by rw [HML.out]; omega) HM.out)
            go_wp2
            go_roundw
            case rel => exact ⟨i + 1, cnt + 1, D2, by omega, by go_num, by go_num, by rw [HCN.out]; exact LE.out⟩
            case measure => simp [intOf]; omega
    · obtain rfl : i = m := by omega
      have HE := Lib.hid (lab_all HS.out S.out.len S.out.lab)
      have h := S.out.own
      rw [HE.out] at h
      have HO := Lib.hid h
      clear h
      go_wp2
      go_ret2
      exact ⟨_, _, by rw [labL_length]; rfl, by rw [labL_length]; exact own_base HO.out BEL.out.size, BEL.out.trans (S.out.bel.mono BEL.out.size)⟩
end Go.Proofs.Ytbjfeogkdfmjpaa
