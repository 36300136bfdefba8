import Derived.Test.YtbjfeogkdfmjpaaWkT
import Derived.Test.YtbjfeogkdfmjpaaWkQ
namespace Go.Proofs.Ytbjfeogkdfmjpaa
open Go.RowKit

theorem ownSS_row {w : World} {lo hi e n c k : Nat} {A : Option Addr} {xss : List (List Int)} (h : OwnSS w lo hi e A n c xss) (hk : k < n) :
    ∃ (b o : Nat) (A' : Option Addr) (c' : Nat) (xs : List Int), A = some ⟨b, o, none⟩ ∧ xss[k]? = some xs ∧ w.cell? ⟨b, o + k, none⟩ = some (.slice A' xs.length c') ∧ w.ownsRow lo 2 1 (.slice A' xs.length c') xs.length (ints xs) ∧ InB (.slice A' xs.length c') lo hi := by
  obtain ⟨vals, a1, hp, a2, a3, a4⟩ := h
  obtain ⟨A', c', h1, h2, h3⟩ := a3 k xss[k] (List.getElem?_eq_getElem (by omega))
  have hl := a1.1
  obtain ⟨b, o, he, hc⟩ := own_rd a1 (by omega)
  exact ⟨b, o, A', c', _, he, List.getElem?_eq_getElem (by omega), hc k _ h1, h2, h3⟩
theorem Turns.stored {w : World} {lo hi g n c e : Nat} {vs : List Value} (h : w.ownsRow lo e 1 (.slice (some ⟨g, 0, none⟩) n c) n vs) (hg : lo ≤ g ∧ g < hi) (k : Nat) (v : Value) : Turns lo hi w (w.setCell ⟨g, k, none⟩ v) :=
  Turns.of_grown (v := .slice (some ⟨g, 0, none⟩) n c) (h.stored k v).2 (fun j hj => by simp [Value.ownBlock] at hj; omega)
theorem cyc_facts {xs c : List Int} {n k : Nat} (hxn : xs.length = n) (hok : okP xs = true) (h : (cycL xs)[k]? = some c) : CycOk xs c ∧ (∀ x ∈ c, 0 ≤ x ∧ x < (n : Int)) ∧ 1 ≤ c.length ∧ c.length ≤ n := by
  have e : cycTo xs n n = cycL xs := by unfold cycL; rw [hxn]
  have hm : c ∈ cycTo xs n n := by rw [e]; exact List.mem_of_getElem? h
  refine ⟨(cyc_all hxn hok n (Nat.le_refl _)).1 c hm, fun x hx => (cycTo_passed hxn hok n (Nat.le_refl _)).1 x (List.mem_flatten.2 ⟨c, hm, hx⟩), cyc_bounds hxn hok n (Nat.le_refl _) c hm⟩

set_option maxHeartbeats 1600000 in
theorem ipow_any {A : Option Addr} {c n : Nat} {xs : List Int} (k : Int) (w : World) (hx : xs.length = n) (ha : Rd w A (ints xs)) (hn : n ≤ 1048576) (hp : okP xs = true) :
    Calls Try.prog 74 #[.slice A n c, .int .i64 k] w (RetN w (powL xs k) n) := by
  have HX := Lib.hid hx
  have HA := Lib.hid ha
  have HP := Lib.hid hp
  have h4 : n ≤ 400 := by rw [← hx]; exact (of_decide_eq_true hp).1
  clear hx ha hp
  have hmk := run_make_row' (P := Try.prog) 68 2 (.int .i64 0) 8 Try.underlying68 Try.info2 rfl .i64 .i64 n (by omega) (by omega)
  have OWN0 := Lib.hid (make_own w (.int .i64 0) n 2 (by unfold maxLen; omega))
  have BEL0 := Lib.hid ((Below.refl w.heap.size w).alloc (Nat.le_refl _) (.cells (madeCells #[.int .i64 0] n) 2))
  go_enter Try.func74, Try.ntmps74
  go_wp2_with fail
  clear hmk
  refine (icyc_any _ HX.out (HA.out.keep BEL0.out) hn HP.out).mono ?_
  rintro e w1 ⟨A1, c1, m, rfl, own, bel⟩
  have hm := ownSS_n own
  have hmn : m ≤ n := by have := cycL_le xs; rw [HX.out] at this; omega
  have OWN := Lib.hid own
  have HM := Lib.hid hm
  have D0 := Lib.hid (own_below OWN0.out bel (Nat.le_refl _))
  have BEL := Lib.hid (BEL0.out.trans (bel.mono (by simp)))
  have hlo : (w.alloc (.cells (madeCells #[.int .i64 0] n) 2)).heap.size = w.heap.size + 1 := by simp
  have HLO := Lib.hid hlo
  clear own bel hm hlo
  go_wp2
  go_loopw [18] (fun q wr => ∃ (j : Nat) (D : List Int), j ≤ m ∧ q = .int .i64 j ∧ wr.ownsRow w.heap.size 2 1 (.slice (some ⟨w.heap.size, 0, none⟩) n n) n (ints D) ∧ PwOk xs k D ((cycL xs).take j).flatten ∧ Turns w.heap.size (w.heap.size + 1) w1 wr) (fun q _ => m - (intOf q).toNat)
  case atStart => exact ⟨0, List.replicate n 0, Nat.zero_le _, rfl, by simpa using D0.out, by simpa using pwOk_nil _ _ _, Turns.refl _ _ _⟩
  case round =>
    obtain ⟨j, D, hj, rfl, own, hpw, tu⟩ := hrel
    have OWND := Lib.hid own
    have PW := Lib.hid hpw
    have TU := Lib.hid tu
    clear own hpw tu
    by_cases hlt : j < m
    · obtain ⟨b, o, A3, c3, cy, rfl, hg, hc, hown, hin⟩ := ownSS_row (ownSS_turns OWN.out TU.out (.inr (by rw [HLO.out]; exact Nat.le_refl _))) hlt
      obtain ⟨hcy, hcr, hl1, hl2⟩ := cyc_facts HX.out HP.out hg
      obtain ⟨l, hl⟩ : ∃ l, cy.length = l := ⟨_, rfl⟩
      rw [hl] at hc hown hin hl1 hl2
      have hz : ((l : Int) == 0) = false := by rw [beq_eq_false_iff_ne]; omega
      obtain ⟨s, hs⟩ := Int.eq_ofNat_of_zero_le (Int.emod_nonneg k (show (l : Int) ≠ 0 by omega))
      have hsl : s < l := by have := Int.emod_lt_of_pos k (show (0 : Int) < l by omega); omega
      have HG := Lib.hid hg
      have HCY := Lib.hid hcy
      have HCR := Lib.hid hcr
      have HL := Lib.hid hl
      have HOWN := Lib.hid hown
      have HIN := Lib.hid hin
      have HS := Lib.hid hs
      clear hg hcy hcr hl hown hin hs
      have HSH := Lib.hid (show (wrap64 (k.tmod ↑l + ↑l)).tmod ↑l = (s : Int) by
        have h1 := Int.lt_tmod_of_pos k (show (0 : Int) < (l : Int) by omega)
        have h2 := Int.tmod_lt_of_pos k (show (0 : Int) < (l : Int) by omega)
        rw [IntWalk.wrap64_in _ (by omega), shift_of (by omega), HS.out])
      go_wp2
      rw [HSH.out]
      obtain ⟨wo, rfl⟩ : ∃ wo : World, wo = wr := ⟨_, rfl⟩
      go_loopw [33] (fun q wi => ∃ (i : Nat) (D : List Int), i ≤ l ∧ q = .int .i64 i ∧ wi.ownsRow w.heap.size 2 1 (.slice (some ⟨w.heap.size, 0, none⟩) n n) n (ints D) ∧ PwOk xs k D (((cycL xs).take j).flatten ++ cy.take i) ∧ Turns w.heap.size (w.heap.size + 1) w1 wi ∧ Turns w.heap.size (w.heap.size + 1) wo wi) (fun q _ => l - (intOf q).toNat)
      case atStart => exact ⟨0, D, Nat.zero_le _, rfl, OWND.out, by simpa using PW.out, TU.out, Turns.refl _ _ _⟩
      case round =>
        obtain ⟨i, D2, hi, rfl, own2, hpw2, tu2, tv2⟩ := hrel
        have OWN2 := Lib.hid own2
        have PW2 := Lib.hid hpw2
        have TU2 := Lib.hid tu2
        have TV2 := Lib.hid tv2
        clear own2 hpw2 tu2 tv2
        by_cases hil : i < l
        · obtain ⟨b3, o3, x, rfl, hgx, hcx⟩ := (own_rd (TV2.out.own HOWN.out HIN.out (.inr (by rw [HLO.out]; exact Nat.le_refl _)))).int (k := i) (by rw [HL.out]; exact hil)
          have hxr := HCR.out x (List.mem_of_getElem? hgx)
          obtain ⟨p, rfl⟩ := Int.eq_ofNat_of_zero_le hxr.1
          have hcp := cyc_pow HX.out HP.out HCR.out HCY.out (k := k) (s := s) (by rw [HL.out, HS.out]) hgx
          rw [HL.out] at hcp
          have hml : (i + s) % l < l := Nat.mod_lt _ (by omega)
          obtain ⟨mm, hmm⟩ : ∃ mm, (i + s) % l = mm := ⟨_, rfl⟩
          rw [hmm] at hcp hml
          have hidx := Lib.hid (show (wrap64 ((i : Int) + (s : Int))).tmod ↑l = (mm : Int) by
            rw [IntWalk.wrap64_in _ (by omega), ← hmm, ← Int.natCast_add, ← Int.ofNat_tmod])
          obtain ⟨b4, o4, y, he, hgy, hcy⟩ := (own_rd (TV2.out.own HOWN.out HIN.out (.inr (by rw [HLO.out]; exact Nat.le_refl _)))).int (k := mm) (by rw [HL.out]; exact hml)
          obtain ⟨rfl, rfl⟩ : b3 = b4 ∧ o3 = o4 := by simpa using he
          rw [hcp] at hgy
          injection hgy with hgy
          have hD2 : D2.length = n := by have := OWN2.out.1; simp at this; omega
          have hpn : p < n := by omega
          obtain ⟨u, hu⟩ := ints_at hD2 hpn
          have hcell := own_cell OWN2.out hu
          have hfrz := OWN2.out.frozenAt p
          obtain ⟨T, hT⟩ : ∃ T, pwT xs k (p : Int) = T := ⟨_, rfl⟩
          rw [← hgy, hT] at hcy
          have hst := Lib.hid (OWN2.out.stored p (.int .i64 T)).1
          have htu := Turns.stored OWN2.out ⟨Nat.le_refl _, Nat.lt_succ_self _⟩ p (.int .i64 T)
          have hpk := pwOk_step PW2.out (show p < D2.length by omega)
          rw [hT, List.append_assoc, ← take_succ_of hgx] at hpk
          have HPK := Lib.hid hpk
          have HTU := Lib.hid (TU2.out.trans htu)
          have HTV := Lib.hid (TV2.out.trans htu)
          clear hgy hT hu hgx hpk htu hD2 hcp he
          have hb1 : 0 ≤ ((i : Int) + (s : Int)) % (l : Int) := Int.emod_nonneg _ (by omega)
          have hb2 : ((i : Int) + (s : Int)) % (l : Int) < (l : Int) := Int.emod_lt_of_pos _ (by omega)
          go_wp2
          go_roundw
          case rel => exact ⟨i + 1, D2.set p T, by omega, by go_num, by have h := hst.out; rwa [ints_set] at h, HPK.out, HTU.out, HTV.out⟩
          case measure => simp [intOf]; omega
        · obtain rfl : i = l := by omega
          have hpk := PW2.out
          have e : cy.take i = cy := List.take_of_length_le (by rw [HL.out]; exact Nat.le_refl _)
          rw [e] at hpk
          have HPK := Lib.hid (show PwOk xs k D2 ((cycL xs).take (j + 1)).flatten by rw [List.take_add_one, HG.out]; simpa using hpk)
          clear hpk
          go_wp2
          go_roundw
          case rel => exact ⟨j + 1, D2, by omega, by go_num, OWN2.out, HPK.out, TU2.out⟩
          case measure => simp [intOf]; omega
    · obtain rfl : j = m := by omega
      have hpk := PW.out
      rw [List.take_of_length_le (by rw [HM.out]; exact Nat.le_refl _)] at hpk
      have hD : D.length = n := by have := OWND.out.1; simp at this; omega
      have HE := Lib.hid (pwOk_all HX.out HP.out hD hpk)
      have HB := Lib.hid (TU.out.below BEL.out BEL.out.size (Nat.le_refl _))
      clear hpk hD
      go_wp2
      go_ret
      have h := OWND.out
      rw [HE.out] at h
      exact ⟨_, _, rfl, h, HB.out⟩
theorem iPow_any {A : Option Addr} {c : Nat} {xs : List Int} {n : Nat} (k : Int) (w : World) (hx : xs.length = n) (ha : Rd w A (ints xs)) (hn : n ≤ 1048576) :
    Calls Try.prog 27 #[.slice A n c, .int .i64 k] w (RetS w (powR xs k) (powC xs k)) := by
  have HX := Lib.hid hx
  have HA := Lib.hid ha
  clear hx ha
  cases hp : okP xs
  · have hr : powR xs k = [] := by simp [powR, hp]
    have hc : powC xs k = 1 := by simp [powC, hp]
    rw [hr, hc]
    have HP := Lib.hid hp
    clear hp hr hc
    go_enter Try.func27, Try.ntmps27
    go_wp2_with fail
    refine (iperm_any w HX.out HA.out hn).mono ?_
    rintro e w' ⟨rfl, bel⟩
    rw [HP.out]
    have BEL := Lib.hid bel
    clear bel
    go_wp2
    go_ret2
    exact ⟨none, 0, rfl, World.ownsRow_nil _ _ _ _, BEL.out⟩
  by_cases hk : k < -1000000000
  · have hr : powR xs k = [] := by simp [powR, hp, hk]
    have hc : powC xs k = 2 := by simp [powC, hp, hk]
    rw [hr, hc]
    have HP := Lib.hid hp
    clear hp hr hc
    go_enter Try.func27, Try.ntmps27
    go_wp2_with fail
    refine (iperm_any w HX.out HA.out hn).mono ?_
    rintro e w' ⟨rfl, bel⟩
    rw [HP.out]
    have BEL := Lib.hid bel
    clear bel
    go_wp2
    go_ret2
    exact ⟨none, 0, rfl, World.ownsRow_nil _ _ _ _, BEL.out⟩
  by_cases hk3 : 1000000000 < k
  · have hr : powR xs k = [] := by simp [powR, hp, hk3]
    have hc : powC xs k = 2 := by simp [powC, hp, hk3]
    rw [hr, hc]
    have HP := Lib.hid hp
    clear hp hr hc
    go_enter Try.func27, Try.ntmps27
    go_wp2_with fail
    refine (iperm_any w HX.out HA.out hn).mono ?_
    rintro e w' ⟨rfl, bel⟩
    rw [HP.out]
    have BEL := Lib.hid bel
    clear bel
    go_wp2
    go_ret2
    exact ⟨none, 0, rfl, World.ownsRow_nil _ _ _ _, BEL.out⟩
  have hr : powR xs k = powL xs k := by simp [powR, hp, hk, hk3]
  have hc : powC xs k = 0 := by simp [powC, hp, hk, hk3]
  rw [hr, hc]
  have HP := Lib.hid hp
  have hk1 : -1000000000 ≤ k := by omega
  have hk2 : k ≤ 1000000000 := by omega
  have HN := Lib.hid (show (powL xs k).length = n by rw [powL_length, HX.out])
  clear hp hr hc hk hk3
  go_enter Try.func27, Try.ntmps27
  go_wp2_with fail
  refine (iperm_any w HX.out HA.out hn).mono ?_
  rintro e w' ⟨rfl, bel⟩
  rw [HP.out]
  have BEL := Lib.hid bel
  clear bel
  go_wp2_with fail
  refine (ipow_any k w' HX.out (HA.out.keep BEL.out) hn HP.out).mono ?_
  rintro e w2 ⟨A2, c2, rfl, own, bel⟩
  have OWN := Lib.hid own
  have BEL2 := Lib.hid bel
  clear own bel
  go_wp2
  go_ret2
  exact ⟨A2, c2, by rw [HN.out]; rfl, by rw [HN.out]; exact own_base OWN.out BEL.out.size, BEL.out.trans (BEL2.out.mono BEL.out.size)⟩
end Go.Proofs.Ytbjfeogkdfmjpaa
