import Derived.Test.YtckmmgepoccopaaL9
import Derived.StillTailTactics
/- First words: plain facts, and what holds of the memory at the loop of impl. -/
namespace Go.Proofs.Ytckmmgepoccopaa
open Go.RowKit

/-- The first generator that leads nearer. -/
def stK (xss : List (List Int)) (D : List Int) (f : Int) : Nat := xss.findIdx fun g => decide (fz D (fz g f) < fz D f)
def fwL (xss : List (List Int)) (D : List Int) : Nat → Int → List Int
  | 0, _ => []
  | e + 1, f => ((stK xss D f : Nat) : Int) :: fwL xss D e (fz (xss.getD (stK xss D f) []) f)
theorem fwL_len (xss : List (List Int)) (D : List Int) : ∀ (e : Nat) (f : Int), (fwL xss D e f).length = e
  | 0, _ => rfl
  | e + 1, f => by unfold fwL; simp [fwL_len xss D e]
section
variable {xss : List (List Int)} {n t f : Nat}
theorem free_inv {g : List Int} (hl : g.length = n) (hp : okP g = true) (hfr : freeP g = true) (hf : f < n) : fz g (fz g f) = (f : Int) := by
  have h1 := List.getElem?_eq_getElem (show f < g.length by omega)
  obtain ⟨q, hq, hqn⟩ := okP_at hp hl h1
  rw [hq] at h1
  have h2 := List.getElem?_eq_getElem (show q < g.length by omega)
  rw [fz_at h1, fz_at h2]
  apply Classical.byContradiction
  intro hne
  have := free_not_back h1 h2 hne
  rw [hfr] at this
  cases this
/-- What is known of the list of distances from t. -/
structure DFar (xss : List (List Int)) (n t : Nat) (D : List Int) : Prop where
  len : D.length = n
  at_ : ∀ y : Nat, y < n → ∃ d : Nat, D[y]? = some (d : Int) ∧ d < n
  self : D[t]? = some 0
  step : ∀ y : Nat, y < n → y ≠ t → stK xss D y < xss.length ∧ ∃ (g : List Int) (z : Nat), xss[stK xss D y]? = some g ∧ fz g y = (z : Int) ∧ z < n ∧ fz D z + 1 = fz D y
  near : ∀ (k : Nat) (g : List Int) (y : Nat), y < n → xss[k]? = some g → fz D y ≤ fz D (fz g y) + 1
  first : ∀ (k : Nat) (g : List Int) (y : Nat), k < stK xss D y → xss[k]? = some g → ¬ fz D (fz g y) < fz D y
  pos : ∀ y : Nat, y < n → y ≠ t → 0 < fz D y
theorem dfar_of (hsys : okSys n xss = true) (ht : t < n) (hall : (orbL xss n t).length = n) (hfree : ∀ g ∈ xss, freeP g = true) : DFar xss n t (distL xss n t) := by
  have hd := dok_distL hsys ht hall
  obtain ⟨j0, _, ho⟩ := oinv_orb hsys ht
  have hat : ∀ y : Nat, y < n → ∃ d : Nat, (distL xss n t)[y]? = some (d : Int) ∧ IsD xss t y d := hd.2
  have hfz : ∀ y : Nat, y < n → ∃ d : Nat, fz (distL xss n t) y = (d : Int) ∧ IsD xss t y d := fun y hy => by
    obtain ⟨d, h1, h2⟩ := hat y hy
    exact ⟨d, fz_at h1, h2⟩
  have hnear : ∀ (k : Nat) (g : List Int) (y : Nat), y < n → xss[k]? = some g → fz (distL xss n t) y ≤ fz (distL xss n t) (fz g y) + 1 := fun k g y hy hg => by
    have hgm := List.mem_of_getElem? hg
    have him := sys_img hsys hgm (x := (y : Int)) (by omega) (by omega)
    obtain ⟨z, hz⟩ := Int.eq_ofNat_of_zero_le him.1
    obtain ⟨d, hd1, hd2⟩ := hfz y hy
    obtain ⟨e, he1, he2⟩ := hfz z (by omega)
    obtain ⟨e', he3, he4⟩ := isD_step he2 hgm
    have hr := (sys_parts hsys).2.2.2 g hgm
    have hb := free_inv (n := n) (by omega) hr.2 (hfree g hgm) hy
    rw [hz] at hb
    rw [hb] at he4
    have := isD_uniq he4 hd2
    rw [hz, hd1, he1]
    omega
  have hstep : ∀ y : Nat, y < n → y ≠ t → ∃ (k : Nat) (g : List Int) (z : Nat), xss[k]? = some g ∧ fz g y = (z : Int) ∧ z < n ∧ fz (distL xss n t) z < fz (distL xss n t) y := fun y hy hne => by
    obtain ⟨d, hd1, hd2⟩ := hfz y hy
    obtain ⟨g, hg, u, m, hu, hm, hmd⟩ := isD_pred hd2 (by omega)
    have hur := wn_in hsys ho m hm.1
    obtain ⟨z, rfl⟩ := Int.eq_ofNat_of_zero_le hur.1
    obtain ⟨e, he1, he2⟩ := hfz z (by omega)
    have hr := (sys_parts hsys).2.2.2 g hg
    have hb := free_inv (n := n) (f := z) (by omega) hr.2 (hfree g hg) (by omega)
    rw [hu] at hb
    have := isD_uniq he2 hm
    obtain ⟨k, hk, hgk⟩ := List.mem_iff_getElem.1 hg
    exact ⟨k, g, z, by rw [List.getElem?_eq_getElem hk, hgk], hb, by omega, by rw [he1, hd1]; omega⟩
  refine ⟨hd.1, fun y hy => distL_at hsys ht hall hy, ?_, ?_, hnear, ?_, ?_⟩
  · obtain ⟨d, h1, h2⟩ := hat t ht
    rw [h1, isD_uniq h2 isD_zero]; rfl
  · intro y hy hne
    obtain ⟨k, g, z, hg, hz, hzn, hlt⟩ := hstep y hy hne
    have hk : stK xss (distL xss n t) y < xss.length := by
      refine List.findIdx_lt_length_of_exists ⟨g, List.mem_of_getElem? hg, ?_⟩
      rw [hz]
      exact decide_eq_true hlt
    have hp := List.findIdx_getElem (p := fun g => decide (fz (distL xss n t) (fz g y) < fz (distL xss n t) y)) (w := hk)
    have hp := of_decide_eq_true hp
    have hgk := List.getElem?_eq_getElem hk
    have him := sys_img hsys (List.mem_of_getElem? hgk) (x := (y : Int)) (by omega) (by omega)
    obtain ⟨z2, hz2⟩ := Int.eq_ofNat_of_zero_le him.1
    have hnr := hnear _ _ y hy hgk
    refine ⟨hk, _, z2, hgk, hz2, by omega, ?_⟩
    change fz (distL xss n t) (fz xss[stK xss (distL xss n t) y] y) < fz (distL xss n t) y at hp
    rw [hz2] at hp hnr
    omega
  · intro k g y hk hg
    have := List.not_of_lt_findIdx hk
    have hkl := (List.getElem?_eq_some_iff.1 hg)
    obtain ⟨h1, h2⟩ := hkl
    rw [h2] at this
    simpa using this
  · intro y hy hne
    obtain ⟨k, g, z, hg, hz, hzn, hlt⟩ := hstep y hy hne
    obtain ⟨e, he1, _⟩ := hfz z hzn
    rw [he1] at hlt
    omega
end
/-- What is known when the flag is f: e moves are still to be made. -/
structure FwI (xss : List (List Int)) (n t : Nat) (D full W : List Int) (e f : Nat) : Prop where
  eq : W ++ fwL xss D e f = full
  fn : f < n
  dist : fz D f = (e : Int)
section
variable {xss : List (List Int)} {n t e f : Nat} {D full W : List Int}
theorem fwi_end (hd : DFar xss n t D) (h : FwI xss n t D full W e t) : W = full := by
  have h1 := h.dist
  rw [fz_at hd.self] at h1
  have : e = 0 := by omega
  subst this
  simpa [fwL] using h.eq
theorem fwi_step (hd : DFar xss n t D) (h : FwI xss n t D full W e f) (hne : f ≠ t) : ∃ (g : List Int) (z e' : Nat), e = e' + 1 ∧ stK xss D f < xss.length ∧ xss[stK xss D f]? = some g ∧ fz g f = (z : Int) ∧ z < n ∧ FwI xss n t D full (W ++ [((stK xss D f : Nat) : Int)]) e' z := by
  obtain ⟨hk, g, z, hg, hz, hzn, hdz⟩ := hd.step f h.fn hne
  have hp := hd.pos f h.fn hne
  rw [h.dist] at hp hdz
  obtain ⟨e', rfl⟩ : ∃ e', e = e' + 1 := ⟨e - 1, by omega⟩
  have he := h.eq
  unfold fwL at he
  have hgd : xss.getD (stK xss D f) [] = g := by simp [List.getD, hg]
  rw [hgd, hz] at he
  exact ⟨g, z, e', rfl, hk, hg, hz, hzn, by simpa using he, hzn, by omega⟩
end
end Go.Proofs.Ytckmmgepoccopaa
namespace Go.Proofs.Ytckmmgepoccopaa
open Go.RowKit

def fwRes (xss : List (List Int)) (D : List Int) (p : Nat) : List Int := if 64 < fz D p then [] else fwL xss D (fz D p).toNat p
def fwCode (D : List Int) (p : Nat) : Int := if 64 < fz D p then 3 else 0
noncomputable def fwR (xss : List (List Int)) (f t : Int) : List Int := if okMan xss then (if flagB (flN xss) f then (if flagB (flN xss) t then fwRes xss (distL xss (flN xss) t) f.toNat else []) else []) else []
noncomputable def fwC (xss : List (List Int)) (f t : Int) : Int := if okMan xss then (if flagB (flN xss) f then (if flagB (flN xss) t then fwCode (distL xss (flN xss) t) f.toNat else 2) else 2) else 1
theorem fwR_le (xss : List (List Int)) (f t : Int) : (fwR xss f t).length ≤ 1048576 := by
  unfold fwR
  split
  · split
    · split
      · unfold fwRes
        split
        · simp
        · rw [fwL_len]; omega
      · simp
    · simp
  · simp
theorem retS_no {w w' : World} {L : List Int} {C k : Int} (hL : L = []) (hC : C = k) (bel : Below w.heap.size w w') : RetS w L C (.returned (.tuple #[.slice none 0 0, .int .i64 k])) w' := by
  subst hL; subst hC
  exact ⟨none, 0, rfl, World.ownsRow_nil _ _ _ _, bel⟩
theorem retS_yes {w w' : World} {L K : List Int} {C k : Int} {A : Option Addr} {c m base : Nat} (hL : K = L) (hC : C = k) (own : w'.ownsRow base 2 1 (.slice A m c) m (ints K)) (hb : w.heap.size ≤ base) (bel : Below w.heap.size w w') : RetS w L C (.returned (.tuple #[.slice A m c, .int .i64 k])) w' := by
  subst hL; subst hC
  obtain rfl : K.length = m := by have := own.1; simpa using this
  exact ⟨A, c, rfl, own_base own hb, bel⟩

set_option maxHeartbeats 1600000 in
theorem sFirstWord_any {A : Option Addr} {c N : Nat} {xss : List (List Int)} (k1 : Int) (k2 : Int) (w : World) (hx : xss.length = N) (ha : RdSS w A xss) (hN : N ≤ 1048576) (hr : ∀ xs ∈ xss, (xs.length : Int) ≤ 1048576) :
    Calls Try.prog 27 #[.agg #[.slice A N c], .int .i64 k1, .int .i64 k2] w (RetS w (fwR xss k1 k2) (fwC xss k1 k2)) := by
  have HX := Lib.hid hx
  have HA := Lib.hid ha
  have HR := Lib.hid hr
  cases ho : okMan xss
  · have h1 : fwR xss k1 k2 = [] := by simp [fwR, ho]
    have h2 : fwC xss k1 k2 = 1 := by simp [fwC, ho]
    rw [h1, h2]
    have HO := Lib.hid ho
    clear hx ha hr ho h1 h2
    go_enter Try.func27, Try.ntmps27
    go_wp2_with fail
    refine (sIs_any _ HX.out (HA.out.al _) hN HR.out).mono ?_
    rintro e w1 ⟨rfl, bel⟩
    rw [HO.out]
    have BEL := Lib.hid bel
    clear bel
    go_wp2
    go_ret2
    exact ⟨none, 0, rfl, World.ownsRow_nil _ _ _ _, (below1 w _).trans (BEL.out.mono (by simp))⟩
  · have hman := okMan_iff.1 ho
    have hsys := hman.sys
    have hn4 := hman.f4
    have hn2 := hman.f2
    have hpos := hman.pos hx
    have hallq : ∀ q : Nat, q < flN xss → (orbL xss (flN xss) q).length = flN xss := fun q hq => hman.all hq
    obtain ⟨b, o, A0, c0, rfl, hc0⟩ := man_row0 hman ha
    obtain ⟨n, hn⟩ : ∃ n, flN xss = n := ⟨_, rfl⟩
    rw [hn] at hc0 hsys hn4 hn2 hallq
    have HC0 := Lib.hid hc0
    have HO := Lib.hid ho
    have HSY := Lib.hid hsys
    have HALLQ := Lib.hid hallq
    have HMAN := Lib.hid hman
    have HFL := Lib.hid hn
    have BX0 := Lib.hid (Bx.start w (.slice (some ⟨b, o, none⟩) N c) 26)
    have hn6 : n ≤ 1048576 := by omega
    cases hf0 : flagB n k1
    · have h1 : fwR xss k1 k2 = [] := by simp [fwR, ho, hn, hf0]
      have h2 : fwC xss k1 k2 = 2 := by simp [fwC, ho, hn, hf0]
      rw [h1, h2]
      have HF0 := Lib.hid hf0
      clear hx ha hr ho hman hn hc0 hsys hallq h1 h2 hf0
      go_enter Try.func27, Try.ntmps27
      go_wp2_with fail
      refine (sIs_any _ HX.out (HA.out.al _) hN HR.out).mono ?_
      rintro e w1 ⟨rfl, bel⟩
      rw [HO.out]
      have BX1 := Lib.hid (BX0.out.go bel)
      have HC1 := Lib.hid (cell_be (cell_al HC0.out _) bel)
      have hbc1 := BX1.out.cell
      clear bel BX0
      go_wp2_with fail
      refine (sFlag_bel _ _ hpos HC1.out hn6 HF0.out).mono ?_
      rintro e w2 ⟨rfl, bel⟩
      have BX2 := Lib.hid (BX1.out.go bel)
      have HC2 := Lib.hid (cell_be HC1.out bel)
      have hbc2 := BX2.out.cell
      clear bel hbc1
      go_wp2
      go_ret2
      exact ⟨none, 0, rfl, World.ownsRow_nil _ _ _ _, BX2.out.below⟩
    · skip
      cases hf1 : flagB n k2
      · have h1 : fwR xss k1 k2 = [] := by simp [fwR, ho, hn, hf0, hf1]
        have h2 : fwC xss k1 k2 = 2 := by simp [fwC, ho, hn, hf0, hf1]
        rw [h1, h2]
        have HF1 := Lib.hid hf1
        have HF0 := Lib.hid hf0
        clear hx ha hr ho hman hn hc0 hsys hallq h1 h2 hf0 hf1
        go_enter Try.func27, Try.ntmps27
        go_wp2_with fail
        refine (sIs_any _ HX.out (HA.out.al _) hN HR.out).mono ?_
        rintro e w1 ⟨rfl, bel⟩
        rw [HO.out]
        have BX1 := Lib.hid (BX0.out.go bel)
        have HC1 := Lib.hid (cell_be (cell_al HC0.out _) bel)
        have hbc1 := BX1.out.cell
        clear bel BX0
        go_wp2_with fail
        refine (sFlag_bel _ _ hpos HC1.out hn6 HF0.out).mono ?_
        rintro e w2 ⟨rfl, bel⟩
        have BX2 := Lib.hid (BX1.out.go bel)
        have HC2 := Lib.hid (cell_be HC1.out bel)
        have hbc2 := BX2.out.cell
        clear bel hbc1
        go_wp2_with fail
        refine (sFlag_bel _ _ hpos HC2.out hn6 HF1.out).mono ?_
        rintro e w3 ⟨rfl, bel⟩
        have BX3 := Lib.hid (BX2.out.go bel)
        have HC3 := Lib.hid (cell_be HC2.out bel)
        have hbc3 := BX3.out.cell
        clear bel hbc2
        go_wp2
        go_ret2
        exact ⟨none, 0, rfl, World.ownsRow_nil _ _ _ _, BX3.out.below⟩
      · skip
        obtain ⟨p0, rfl, hp0⟩ := flagB_true hf0
        obtain ⟨p1, rfl, hp1⟩ := flagB_true hf1
        have h1 : fwR xss (p0 : Int) (p1 : Int) = fwRes xss (distL xss n p1) p0 := by simp [fwR, ho, hn, hf0, hf1]
        have h2 : fwC xss (p0 : Int) (p1 : Int) = fwCode (distL xss n p1) p0 := by simp [fwC, ho, hn, hf0, hf1]
        rw [h1, h2]
        have HF0 := Lib.hid hf0
        have HF1 := Lib.hid hf1
        clear hx ha hr ho hman hn hc0 hsys hallq h1 h2 hf0 hf1
        go_enter Try.func27, Try.ntmps27
        go_wp2_with fail
        refine (sIs_any _ HX.out (HA.out.al _) hN HR.out).mono ?_
        rintro e w1 ⟨rfl, bel⟩
        rw [HO.out]
        have BX1 := Lib.hid (BX0.out.go bel)
        have HC1 := Lib.hid (cell_be (cell_al HC0.out _) bel)
        have hbc1 := BX1.out.cell
        clear bel BX0
        go_wp2_with fail
        refine (sFlag_bel _ _ hpos HC1.out hn6 HF0.out).mono ?_
        rintro e w2 ⟨rfl, bel⟩
        have BX2 := Lib.hid (BX1.out.go bel)
        have HC2 := Lib.hid (cell_be HC1.out bel)
        have hbc2 := BX2.out.cell
        clear bel hbc1
        go_wp2_with fail
        refine (sFlag_bel _ _ hpos HC2.out hn6 HF1.out).mono ?_
        rintro e w3 ⟨rfl, bel⟩
        have BX3 := Lib.hid (BX2.out.go bel)
        have HC3 := Lib.hid (cell_be HC2.out bel)
        have hbc3 := BX3.out.cell
        clear bel hbc2
        have HAB := Lib.hid (HA.out.keep BX3.out.below)
        go_wp2_with fail
        refine (sdist_any _ HX.out HAB.out hN HSY.out HC3.out hpos hp1 (HALLQ.out _ hp1)).mono ?_
        rintro e w9 ⟨A9, c9, rfl, own, bel⟩
        have hdl := distL_len HSY.out hp1 (HALLQ.out _ hp1)
        rw [hdl] at own ⊢
        have BX9 := Lib.hid (BX3.out.go bel)
        have HFAR := Lib.hid (dfar_of HSY.out hp1 (HALLQ.out _ hp1) (fun g hg => (HMAN.out.row g hg).2.2))
        obtain ⟨D, hD⟩ : ∃ D, distL xss n p1 = D := ⟨_, rfl⟩
        rw [hD] at own HFAR
        have HDD := Lib.hid hD
        have OWN := Lib.hid own
        have hws := BX9.out.size
        obtain ⟨dg, rfl⟩ := own_shape own (by omega)
        obtain ⟨d0, hd0, hd0n⟩ := HFAR.out.at_ p0 hp0
        have hcp := own_cell OWN.out (show (ints D)[p0]? = some (.int .i64 d0) by simp [hd0])
        have hdg := World.block_lt_of_cell? w9 _ hcp
        have HD0 := Lib.hid (show fz D p0 = (d0 : Int) from fz_at hd0)
        have hbc := BX9.out.cell
        clear own bel hdl hD hd0 hbc3
        by_cases h64 : 64 < d0
        · have h64i : (64 : Int) < (d0 : Int) := by omega
          have HE := Lib.hid (show fwRes xss (distL xss n p1) p0 = [] by rw [HDD.out]; unfold fwRes; rw [HD0.out, if_pos h64i])
          have HC := Lib.hid (show fwCode (distL xss n p1) p0 = 3 by rw [HDD.out]; unfold fwCode; rw [HD0.out, if_pos h64i])
          go_wp2
          go_ret2
          exact retS_no HE.out HC.out (BX9.out.al _).below
        · have h64i : ¬ (64 : Int) < (d0 : Int) := by omega
          have HC := Lib.hid (show fwCode (distL xss n p1) p0 = 0 by rw [HDD.out]; unfold fwCode; rw [HD0.out, if_neg h64i])
          have FW0 := Lib.hid (show FwI xss n p1 D (fwRes xss D p0) [] d0 p0 from ⟨by unfold fwRes; rw [HD0.out, if_neg h64i, Int.toNat_natCast]; rfl, hp0, HD0.out⟩)
          have WN0 := Lib.hid (show (w9.alloc (.cells #[] 2)).ownsRow w9.heap.size 2 1 (.slice (some ⟨w9.heap.size, 0, none⟩) 0 0) 0 (ints []) from by simpa using World.ownsRow_made (base := w9.heap.size) (e := 2) (size := 1) w9 #[] 0 (Nat.le_refl _) (Nat.zero_le _) (by simp))
          go_wp2
          clear hcp hbc
          go_loopg [9, 10] d0 (fun gk v q wr => ∃ (e f m c' : Nat) (A' : Option Addr) (K : List Int), gk = e ∧ q = .int .i64 f ∧ v = .slice A' m c' ∧ m + e = d0 ∧ wr.ownsRow w9.heap.size 2 1 (.slice A' m c') m (ints K) ∧ Below w9.heap.size w9 wr ∧ FwI xss n p1 D (fwRes xss D p0) K e f)
          case atStart => exact ⟨d0, p0, 0, 0, _, [], rfl, rfl, rfl, by omega, WN0.out, below1 _ _, FW0.out⟩
          case round =>
            obtain ⟨e, f, m, c', A', K, rfl, rfl, rfl, hme, own, bel, fw⟩ := hrel
            have OW := Lib.hid own
            have BE := Lib.hid bel
            have FW := Lib.hid fw
            have hfn := fw.fn
            clear own bel fw FW0 WN0
            by_cases hft : f = p1
            · subst hft
              have hne : ((f : Int) != (f : Int)) = false := by simp
              have HE := Lib.hid (show K = fwRes xss (distL xss n f) p0 by rw [HDD.out]; exact fwi_end HFAR.out FW.out)
              go_wp2
              go_ret2
              exact retS_yes HE.out HC.out OW.out BX9.out.below.size (BX9.out.below.trans (BE.out.mono BX9.out.below.size))
            · have hne : ((f : Int) != (p1 : Int)) = true := by rw [bne_iff_ne]; omega
              obtain ⟨g0, z, e', rfl, hkN, hg0, hz, hzn, fw2⟩ := fwi_step HFAR.out FW.out hft
              have FW2 := Lib.hid fw2
              have HG0 := Lib.hid hg0
              have HZ := Lib.hid hz
              have HFT := Lib.hid hft
              obtain ⟨K0, hK0⟩ : ∃ K0, stK xss D f = K0 := ⟨_, rfl⟩
              have HK0 := Lib.hid hK0
              rw [hK0] at hkN FW2 HG0
              rw [HX.out] at hkN
              clear fw2 hg0 hz hft hK0
              go_wp2
              go_loopg [9, 10, 11] N (fun gk v9 v10 v wi => ∃ k : Nat, gk = N - k ∧ v9 = .slice A' m c' ∧ v10 = .int .i64 f ∧ v = .int .i64 k ∧ k ≤ K0 ∧ Below wr.heap.size wr wi)
              case atStart => exact ⟨0, by omega, rfl, rfl, rfl, Nat.zero_le _, Below.refl _ _⟩
              case round =>
                obtain ⟨k, rfl, rfl, rfl, rfl, hkk, bel2⟩ := hrel
                have BE2 := Lib.hid (BE.out.trans (bel2.mono BE.out.size))
                have OW2 := Lib.hid (own_below OW.out bel2 (Nat.le_refl _))
                have BX2 := Lib.hid (BX9.out.go BE2.out)
                have BB := Lib.hid bel2
                have OF := Lib.hid (own_below OWN.out BE2.out (Nat.le_refl _))
                have hbc := BX2.out.cell
                clear bel2
                obtain ⟨b3, o3, A4, c4, gg, he, hg, hcw, hrd, hms⟩ := HA.out.row (k := k) (by rw [HX.out]; omega)
                obtain ⟨rfl, rfl⟩ : b = b3 ∧ o = o3 := by simpa using he
                have hlg := sys_len HSY.out hg
                obtain ⟨l, hl⟩ : ∃ l, gg.length = l := ⟨_, rfl⟩
                rw [hl] at hcw hms hlg
                have hln : l = n := by omega
                rw [hln] at hcw
                obtain ⟨b4, o4, y, rfl, hgy, hcyw⟩ := hrd.int (k := f) (by omega)
                obtain ⟨q, rfl, hq0⟩ := sys_at HSY.out hg hgy
                have HCW := Lib.hid hcw
                have HCYW := Lib.hid hcyw
                have hc := cell_be hcw BX2.out.below
                have hcy := cell_be hcyw BX2.out.below
                have hqn : q < n := by omega
                obtain ⟨d1, hd1, hd1n⟩ := HFAR.out.at_ q hqn
                obtain ⟨d2, hd2, hd2n⟩ := HFAR.out.at_ f hfn
                have hcq := own_cell OF.out (show (ints D)[q]? = some (.int .i64 d1) by simp [hd1])
                have hcf := own_cell OF.out (show (ints D)[f]? = some (.int .i64 d2) by simp [hd2])
                have HGF := Lib.hid (show fz gg f = (q : Int) by simp [fz, hgy])
                have HDQ := Lib.hid (show fz D (fz gg f) = (d1 : Int) by rw [HGF.out]; exact fz_at hd1)
                have HDF := Lib.hid (show fz D f = (d2 : Int) from fz_at hd2)
                have HG := Lib.hid hg
                have hkI : (k : Int) < (N : Int) := by omega
                clear he hrd hg hgy hd1 hd2 hlg hln hcw hcyw
                by_cases hkeq : k = K0
                · subst hkeq
                  have hgg : gg = g0 := by have h1 := HG.out; rw [HG0.out] at h1; injection h1 with h1; exact h1.symm
                  subst hgg
                  have hqz : q = z := by have h1 := HGF.out; rw [HZ.out] at h1; omega
                  subst hqz
                  have h9 := FW2.out.dist
                  rw [← HGF.out, HDQ.out] at h9
                  have h8 := FW.out.dist
                  rw [HDF.out] at h8
                  have hbe : ((d1 : Int) == (d2 : Int) - 1) = true := by rw [beq_iff_eq]; omega
                  have hme' : m + 1 + e' = d0 := by omega
                  have hz2 := BE2.out.size
                  have F3 := Lib.hid FW2.out
                  have hwr : IntKind.i64.wrap ((d2 : Int) - 1) = (d2 : Int) - 1 := IntWalk.i64_in _ (by omega)
                  clear h9 h8
                  go_wp2
                  go_quiet (fail)
                  clear hwr
                  have O3 := Lib.hid (own_below OW2.out (below_drewN (Below.refl _ _) nq) (Nat.le_refl _))
                  have B3 := Lib.hid (below_drewN BE2.out nq)
                  have hb3 : w9.heap.size ≤ (wr.drewN nq).heap.size := B3.out.size
                  go_wp2_with (at_builtin; refine wpList_push _ rfl _ _ 28 2 rfl Try.underlying28 (.int .i64 0) 8 Try.info2 rfl w9.heap.size _ _ _ rfl O3.out _ rfl rfl (by omega) (by omega) (by omega) ?_)
                  intro A5 c5 w5 own5 bel5 _
                  have O5 := Lib.hid own5
                  have B5 := Lib.hid (B3.out.trans bel5)
                  have hbc5 := (BX9.out.go B5.out).cell
                  have hc5 := cell_be HCW.out (BX9.out.go B5.out).below
                  have hcy5 := cell_be HCYW.out (BX9.out.go B5.out).below
                  clear own5 bel5
                  have hkI2 : (k : Int) < (N : Int) := by omega
                  have hme3 : e' < e' + 1 := Nat.lt_succ_self _
                  have HKK := Lib.hid HK0.out
                  go_wp2
                  go_roundg e'
                  case measure => exact hme3
                  case rel => exact ⟨e', q, m + 1, c5, A5, K ++ [(k : Int)], rfl, rfl, rfl, hme', by simpa using O5.out, B5.out, F3.out⟩
                · have hlt1 : ¬ ((d1 : Int) < (d2 : Int)) := by
                    have h1 := HFAR.out.first k gg f (by rw [HK0.out]; omega) HG.out
                    rw [HDQ.out, HDF.out] at h1
                    exact h1
                  have hbe : ((d1 : Int) == (d2 : Int) - 1) = false := by rw [beq_eq_false_iff_ne]; omega
                  have hkk2 : k + 1 ≤ K0 := by omega
                  have hme2 : N - (k + 1) < N - k := by omega
                  have hwr : IntKind.i64.wrap ((d2 : Int) - 1) = (d2 : Int) - 1 := IntWalk.i64_in _ (by omega)
                  go_wp2
                  go_quiet (fail)
                  clear hwr
                  go_wp2
                  go_roundg (N - (k + 1))
                  case measure => exact hme2
                  case rel => exact ⟨k + 1, rfl, rfl, rfl, by go_num, hkk2, below_drewN BB.out nq⟩
end Go.Proofs.Ytckmmgepoccopaa
namespace Go.Proofs.Ytckmmgepoccopaa
open Go.RowKit

/-- The word under way, and the flag in a cell of its own. -/
structure FSt (W2 wr : World) (g9 f : Nat) (A : Option Addr) (m c : Nat) (K : List Int) : Prop where
  bel : Below W2.heap.size W2 wr
  word : wr.ownsRow W2.heap.size 2 1 (.slice A m c) m (ints K)
  nil : m = 0 → A = none ∧ c = 0
  flag : wr.ownsRow W2.heap.size 2 1 (.slice (some ⟨g9, 0, none⟩) 1 1) 1 (ints [(f : Int)])
  ap : ∀ k, (Value.slice A m c).ownBlock = some k → k ≠ g9
section
variable {W2 wr w2 w4 : World} {g9 f m c : Nat} {A : Option Addr} {K : List Int}
theorem FSt.go (h : FSt W2 wr g9 f A m c K) (hb : Below wr.heap.size wr w2) : FSt W2 w2 g9 f A m c K :=
  ⟨h.bel.trans (hb.mono h.bel.size), own_below h.word hb (Nat.le_refl _), h.nil, own_below h.flag hb (Nat.le_refl _), h.ap⟩
theorem fst_start (W2 : World) (f : Nat) : FSt W2 (W2.alloc (.cells #[.int .i64 (f : Int)] 2)) W2.heap.size f none 0 0 [] :=
  ⟨below1 _ _, World.ownsRow_nil _ _ _ _, fun _ => ⟨rfl, rfl⟩, by simpa using World.ownsRow_lit (base := W2.heap.size) (e := 2) (size := 1) W2 #[.int .i64 (f : Int)] 1 (Nat.le_refl _) (by decide) (by simp), fun k hk => by simp [Value.ownBlock] at hk⟩
theorem FSt.cell (h : FSt W2 wr g9 f A m c K) : wr.cell? ⟨g9, 0, none⟩ = some (.int .i64 (f : Int)) := own_cell h.flag rfl
theorem FSt.free (h : FSt W2 wr g9 f A m c K) : wr.frozen? ⟨g9, 0, none⟩ = false := h.flag.frozenAt 0
theorem FSt.glt (h : FSt W2 wr g9 f A m c K) : W2.heap.size ≤ g9 ∧ g9 < wr.heap.size := h.flag.lt g9 rfl
theorem FSt.push {o : Obj} {A4 : Option Addr} {c4 : Nat} {x : Int} (h : FSt W2 wr g9 f A m c K) (own4 : w4.ownsRow W2.heap.size 2 1 (.slice A4 (m + 1) c4) (m + 1) (ints K ++ [.int .i64 x]))
    (hb : m = 0 → ∀ k, (Value.slice A4 (m + 1) c4).ownBlock = some k → wr.heap.size ≤ k) (gr : (wr.alloc o).grownBy w4 (Value.slice A m c).ownBlock) : FSt W2 w4 g9 f A4 (m + 1) c4 (K ++ [x]) := by
  have hw := h.bel.size
  have hf := (h.flag.alloc o).kept gr (by
    cases hk : (Value.slice A m c).ownBlock with
    | none => exact .inr (by simp [Value.ownBlock])
    | some k =>
      right
      intro he
      have h1 := h.ap k hk
      simp [Value.ownBlock] at he
      exact h1 he.symm)
  refine ⟨(h.bel.alloc hw o).grown gr (by simp; omega) fun k hk => (h.word.lt k hk).1, by simpa using own4, fun h0 => absurd h0 (by omega), hf, fun k hk he => ?_⟩
  subst he
  have hg := h.glt
  by_cases h0 : m = 0
  · have := hb h0 k hk
    omega
  · rcases own4.2 with ⟨_, h1⟩ | ⟨g, cap, cur, hv, _, hc1, hn1, _, hs1, _⟩
    · omega
    · simp only [Value.slice.injEq] at hv
      obtain ⟨rfl, _, _⟩ := hv
      have hgk : g = k := by simpa [Value.ownBlock] using hk
      subst hgk
      rcases hf.2 with ⟨hv2, _⟩ | ⟨g', cap', cur', hv2, _, hc2, _, _, hs2, _⟩
      · cases hv2
      · simp only [Value.slice.injEq, Option.some.injEq, Addr.mk.injEq, and_true, true_and] at hv2
        obtain ⟨rfl, rfl⟩ := hv2
        rw [hc1] at hc2
        injection hc2 with hc2
        injection hc2 with hc2
        rw [hc2] at hs1
        omega
theorem FSt.put (h : FSt W2 wr g9 f A m c K) (z : Nat) : FSt W2 (wr.setCell ⟨g9, 0, none⟩ (.int .i64 (z : Int))) g9 z A m c K := by
  have hst := h.flag.stored 0 (.int .i64 (z : Int))
  refine ⟨h.bel.setCell (p := ⟨g9, 0, none⟩) h.glt.1 _, h.word.kept hst.2 ?_, h.nil, by simpa using hst.1, h.ap⟩
  cases hk : (Value.slice A m c).ownBlock with
  | none => exact .inl rfl
  | some k =>
    right
    intro he
    have h1 := h.ap k hk
    simp at he
    exact h1 he
theorem FSt.next (h : FSt W2 wr g9 f A m c K) : FSt W2 (wr.alloc (.cells #[.int .i64 (f : Int)] 2)) wr.heap.size f A m c K :=
  ⟨h.bel.trans ((below1 wr _).mono h.bel.size), own_below h.word (below1 wr _) (Nat.le_refl _), h.nil,
   by simpa using World.ownsRow_lit (base := W2.heap.size) (e := 2) (size := 1) wr #[.int .i64 (f : Int)] 1 h.bel.size (by decide) (by simp), fun k hk => by have := (h.word.lt k hk).2; omega⟩
end

set_option maxHeartbeats 800000 in
theorem clo_any {A : Option Addr} {c n cd g8 g9 gd f : Nat} {mv D : List Int} (w : World) (hl : mv.length = n) (hrd : Rd w A (ints mv)) (okm : okP mv = true) (hc8 : w.cell? ⟨g8, 0, none⟩ = some (.slice (some ⟨gd, 0, none⟩) n cd)) (hc9 : w.cell? ⟨g9, 0, none⟩ = some (.int .i64 (f : Int)))
    (hD : Rd w (some ⟨gd, 0, none⟩) (ints D)) (hat : ∀ y : Nat, y < n → ∃ d : Nat, D[y]? = some (d : Int) ∧ d < n) (hDl : D.length = n) (hf : f < n) :
    Calls Try.prog 136 #[.slice A n c, .pointer (some ⟨g8, 0, none⟩), .pointer (some ⟨g9, 0, none⟩)] w fun e w' => e = .returned (.bool (decide (fz D (fz mv f) < fz D f))) ∧ ∃ j, w' = w.drewN j := by
  obtain ⟨b1, o1, y, rfl, hgy, hcy⟩ := hrd.int (k := f) (by omega)
  obtain ⟨q, rfl, hqn⟩ := okP_at okm hl hgy
  obtain ⟨d1, hd1, _⟩ := hat q hqn
  obtain ⟨d2, hd2, _⟩ := hat f hf
  obtain ⟨b2, o2, x1, he1, hg1, hcq⟩ := hD.int (k := q) (by omega)
  obtain ⟨b3, o3, x2, he2, hg2, hcf⟩ := hD.int (k := f) (by omega)
  rw [hd1] at hg1
  rw [hd2] at hg2
  injection hg1 with hg1
  injection hg2 with hg2
  subst hg1
  subst hg2
  obtain ⟨rfl, rfl⟩ : gd = b2 ∧ 0 = o2 := by simpa using he1
  obtain ⟨rfl, rfl⟩ : gd = b3 ∧ 0 = o3 := by simpa using he2
  rw [Nat.zero_add] at hcq hcf
  have HE := Lib.hid (show decide ((d1 : Int) < (d2 : Int)) = decide (fz D (fz mv f) < fz D f) by rw [fz_at hgy, fz_at hd1, fz_at hd2])
  have hfI : (f : Int) < (n : Int) := by omega
  have hqI : (q : Int) < (n : Int) := by omega
  clear hl hrd okm hD hat hDl hgy hd1 hd2 he1 he2
  go_enter Try.func136, Try.ntmps136
  go_wp2
  go_quiet (fail)
  go_wp2
  go_ret
  exact ⟨ret_bool (by rw [← HE.out]; simp), _, rfl⟩

set_option maxHeartbeats 1600000 in
theorem idxf_any {b o c N n cd g8 g9 gd f K0 : Nat} {xss : List (List Int)} {D g0 : List Int} (w : World) (hx : xss.length = N) (ha : RdSS w (some ⟨b, o, none⟩) xss) (hN : N ≤ 1048576) (hsys : okSys n xss = true) (hc8 : w.cell? ⟨g8, 0, none⟩ = some (.slice (some ⟨gd, 0, none⟩) n cd)) (hc9 : w.cell? ⟨g9, 0, none⟩ = some (.int .i64 (f : Int)))
    (hD : Rd w (some ⟨gd, 0, none⟩) (ints D)) (hat : ∀ y : Nat, y < n → ∃ d : Nat, D[y]? = some (d : Int) ∧ d < n) (hDl : D.length = n) (hf : f < n) (hK : K0 < N) (hg0 : xss[K0]? = some g0) (hyes : fz D (fz g0 f) < fz D f) (hno : ∀ (k : Nat) (g : List Int), k < K0 → xss[k]? = some g → ¬ fz D (fz g f) < fz D f) :
    Calls Try.prog 135 #[.slice (some ⟨b, o, none⟩) N c, .func (.func 136) #[] #[.pointer (some ⟨g8, 0, none⟩), .pointer (some ⟨g9, 0, none⟩)]] w fun e w' => e = .returned (.int .i64 K0) ∧ Below w.heap.size w w' := by
  have HX := Lib.hid hx
  have HA := Lib.hid ha
  have HS := Lib.hid hsys
  have H8 := Lib.hid hc8
  have H9 := Lib.hid hc9
  have HD := Lib.hid hD
  have HAT := Lib.hid hat
  have HDL := Lib.hid hDl
  have HG0 := Lib.hid hg0
  have HY := Lib.hid hyes
  have HNO := Lib.hid hno
  clear hx ha hsys hc8 hc9 hD hat hDl hg0 hyes hno
  go_enter Try.func135, Try.ntmps135
  go_wp2
  go_loopw [8] (fun i wr => ∃ k : Nat, k ≤ K0 ∧ i = .int .i64 k ∧ Below w.heap.size w wr) (fun i _ => N - (intOf i).toNat)
  case atStart => exact ⟨0, Nat.zero_le _, rfl, Below.refl _ _⟩
  case round =>
    obtain ⟨k, hk, rfl, bel⟩ := hrel
    have BE := Lib.hid bel
    obtain ⟨b3, o3, A4, c4, gg, he, hg, hc, hrd, hms⟩ := (HA.out.keep bel).row (k := k) (by rw [HX.out]; omega)
    obtain ⟨rfl, rfl⟩ : b = b3 ∧ o = o3 := by simpa using he
    have hlg := sys_len HS.out hg
    obtain ⟨l, hl⟩ : ∃ l, gg.length = l := ⟨_, rfl⟩
    rw [hl] at hc hms hlg
    have hln : l = n := by omega
    rw [hln] at hc hl
    have HL := Lib.hid hl
    have HG := Lib.hid hg
    have HRD := Lib.hid hrd
    have OKG := Lib.hid ((sys_parts HS.out).2.2.2 gg (List.mem_of_getElem? hg)).2
    have hkN : k < N := by omega
    clear bel he hg hrd hl hlg hln hms
    by_cases hkeq : k = K0
    · subst hkeq
      have hgg : gg = g0 := by have h1 := HG.out; rw [HG0.out] at h1; injection h1 with h1; exact h1.symm
      subst hgg
      have HDC := Lib.hid (decide_eq_true HY.out)
      go_wp2_with fail
      refine (clo_any _ HL.out HRD.out OKG.out (cell_be H8.out BE.out) (cell_be H9.out BE.out) (HD.out.keep BE.out) HAT.out HDL.out hf).mono ?_
      rintro e w1 ⟨rfl, j, rfl⟩
      rw [HDC.out]
      go_wp2
      go_ret
      exact ⟨rfl, below_drewN BE.out j⟩
    · have hno := HNO.out k gg (by omega) HG.out
      have HDC := Lib.hid (show decide (fz D (fz gg f) < fz D f) = false from decide_eq_false (by omega))
      clear hno
      have hk2 : k + 1 ≤ K0 := by omega
      clear hkeq
      go_wp2_with fail
      refine (clo_any _ HL.out HRD.out OKG.out (cell_be H8.out BE.out) (cell_be H9.out BE.out) (HD.out.keep BE.out) HAT.out HDL.out hf).mono ?_
      rintro e w1 ⟨rfl, j, rfl⟩
      rw [HDC.out]
      go_wp2
      go_roundw
      case rel => exact ⟨k + 1, hk2, by go_num, below_drewN BE.out j⟩
      case measure => simp [intOf]; omega
end Go.Proofs.Ytckmmgepoccopaa
namespace Go.Proofs.Ytckmmgepoccopaa
open Go.RowKit

set_option maxHeartbeats 3200000 in
set_option maxRecDepth 8000 in
theorem ifw_any {b o c N n c0 p t : Nat} {A0 : Option Addr} {xss : List (List Int)} (w : World) (hx : xss.length = N) (ha : RdSS w (some ⟨b, o, none⟩) xss) (hN : N ≤ 1048576) (hsys : okSys n xss = true) (h0 : w.cell? ⟨b, o, none⟩ = some (.slice A0 n c0)) (hpos : 0 < N) (hp : p < n) (ht : t < n) (h2 : 2 ≤ n) (hall : (orbL xss n t).length = n) (hfree : ∀ g ∈ xss, freeP g = true) :
    Calls Try.prog 90 #[.agg #[.slice (some ⟨b, o, none⟩) N c], .int .i64 p, .int .i64 t] w (Ret1 w (fwL xss (distL xss n t) (fz (distL xss n t) p).toNat p)) := by
  have hn4 : n ≤ 400 := by have := (sys_parts hsys).2.1; omega
  have HX := Lib.hid hx
  have HA := Lib.hid ha
  have HS := Lib.hid hsys
  have HC0 := Lib.hid h0
  have HALL := Lib.hid hall
  have hfar := dfar_of hsys ht hall hfree
  obtain ⟨d0, hd0, hd0n⟩ := hfar.at_ p hp
  have HD0 := Lib.hid (show fz (distL xss n t) p = (d0 : Int) from fz_at hd0)
  have HFAR := Lib.hid hfar
  have BX0 := Lib.hid (Bx.start w (.slice (some ⟨b, o, none⟩) N c) 26)
  have FW0 := Lib.hid (show FwI xss n t (distL xss n t) (fwL xss (distL xss n t) (fz (distL xss n t) p).toNat p) [] d0 p from ⟨by rw [HD0.out, Int.toNat_natCast]; rfl, hp, HD0.out⟩)
  clear hx ha hsys h0 hall hfree hfar hd0
  go_enter Try.func90, Try.ntmps90
  go_wp2_with fail
  refine (idist_any _ HX.out (HA.out.al _) hN HS.out (cell_al HC0.out _) hpos ht h2 HALL.out).mono ?_
  rintro e w9 ⟨A9, c9, rfl, own, bel⟩
  have hdl := distL_len HS.out ht HALL.out
  rw [hdl] at own ⊢
  obtain ⟨dg, rfl⟩ := own_shape own (by omega)
  have BX9 := Lib.hid (BX0.out.go bel)
  have OWN := Lib.hid own
  obtain ⟨W2, hW2⟩ : ∃ W2 : World, W2 = w9.alloc (.cells #[.slice (some ⟨dg, 0, none⟩) n c9] 28) := ⟨_, rfl⟩
  have H8 := Lib.hid (show W2.cell? ⟨w9.heap.size, 0, none⟩ = some (.slice (some ⟨dg, 0, none⟩) n c9) by rw [hW2]; simp)
  have OW2 := Lib.hid (show W2.ownsRow (w.heap.size + 1) 2 1 (.slice (some ⟨dg, 0, none⟩) n c9) n (ints (distL xss n t)) by rw [hW2]; exact own_below (own_base OWN.out (by simp)) (below1 _ _) (Nat.le_refl _))
  have BX2 := Lib.hid (show Bx w W2 (.slice (some ⟨b, o, none⟩) N c) 26 by rw [hW2]; exact BX9.out.al _)
  have ST0 := Lib.hid (fst_start W2 p)
  have hz9 : W2.heap.size = w9.heap.size + 1 := by rw [hW2]; simp
  have HZ9 := Lib.hid hz9
  clear own bel hdl BX0 hz9
  go_wp2
  rw [← hW2]
  clear hW2
  have hz9 := HZ9.out
  rw [hz9] at ST0
  clear hz9
  obtain ⟨g8, hg8⟩ : ∃ g8 : Nat, w9.heap.size = g8 := ⟨_, rfl⟩
  rw [hg8] at H8 ST0 ⊢
  clear hg8 HZ9
  go_loopg [7, 9] d0 (fun gk v q wr => ∃ (e f m c' g9 : Nat) (A' : Option Addr) (K : List Int), gk = e ∧ q = .pointer (some ⟨g9, 0, none⟩) ∧ v = .slice A' m c' ∧ m + e = d0 ∧ FSt W2 wr g9 f A' m c' K ∧ FwI xss n t (distL xss n t) (fwL xss (distL xss n t) (fz (distL xss n t) p).toNat p) K e f)
  case atStart => exact ⟨d0, p, 0, 0, g8 + 1, none, [], rfl, rfl, rfl, by omega, ST0.out, FW0.out⟩
  case round =>
    obtain ⟨e, f, m, c', g9, A', K, rfl, rfl, rfl, hme, st, fw⟩ := hrel
    have S := Lib.hid st
    have FW := Lib.hid fw
    have hfn := fw.fn
    have BX := Lib.hid (BX2.out.go (st.bel.mono (Nat.le_refl _)))
    have hc9 := st.cell
    have hbc := BX.out.cell
    clear st fw ST0 FW0
    by_cases hft : f = t
    · subst hft
      have hne : ((f : Int) != (f : Int)) = false := by simp
      have HE := Lib.hid (fwi_end HFAR.out FW.out)
      have HM := Lib.hid (show K.length = m by have := S.out.word.1; simpa using this)
      go_wp2
      go_ret
      have hw := S.out.word
      rw [HE.out] at hw HM
      exact ⟨A', c', by rw [HM.out]; rfl, by rw [HM.out]; exact own_base hw BX2.out.below.size, BX.out.below⟩
    · have hne : ((f : Int) != (t : Int)) = true := by rw [bne_iff_ne]; omega
      obtain ⟨g0, z, e', rfl, hkN, hg0, hz, hzn, fw2⟩ := fwi_step HFAR.out FW.out hft
      have FW2 := Lib.hid fw2
      have HG0 := Lib.hid hg0
      have HY := Lib.hid (show fz (distL xss n t) (fz g0 f) < fz (distL xss n t) f by rw [hz, fw2.dist, FW.out.dist]; omega)
      have HNO := Lib.hid (fun k g hk hg => HFAR.out.first k g f hk hg)
      have HZ := Lib.hid hz
      obtain ⟨K0, hK0⟩ : ∃ K0, stK xss (distL xss n t) f = K0 := ⟨_, rfl⟩
      rw [hK0] at hkN FW2 HG0 HNO
      rw [HX.out] at hkN
      obtain ⟨b3, o3, A4, c4, gg, he, hg, hcw, hrd, hms⟩ := HA.out.row (k := K0) (by rw [HX.out]; exact hkN)
      obtain ⟨rfl, rfl⟩ : b = b3 ∧ o = o3 := by simpa using he
      have hgg : gg = g0 := by rw [HG0.out] at hg; injection hg with hg; exact hg.symm
      subst hgg
      have hlg := sys_len HS.out HG0.out
      obtain ⟨l, hl⟩ : ∃ l, gg.length = l := ⟨_, rfl⟩
      rw [hl] at hcw hlg
      have hln : l = n := by omega
      rw [hln] at hcw hl
      obtain ⟨b4, o4, y, rfl, hgy, hcyw⟩ := hrd.int (k := f) (by omega)
      have hyz : y = (z : Int) := by have h1 := HZ.out; rw [fz_at hgy] at h1; exact h1
      subst hyz
      have HCW := Lib.hid hcw
      have HCYW := Lib.hid hcyw
      have hK400 : K0 ≤ 1048576 := by omega
      have hme' : m + 1 + e' = d0 := by omega
      clear fw2 hg0 hz hft hK0 he hg hrd hms hl hlg hln hgy hcw hcyw
      go_wp2_with fail
      refine (idxf_any _ HX.out (HA.out.keep BX.out.below) hN HS.out (cell_be H8.out S.out.bel) S.out.cell (own_rd (own_below OW2.out S.out.bel (Nat.le_refl _))) HFAR.out.at_ HFAR.out.len hfn hkN HG0.out HY.out (fun k g hk hg => Int.not_lt.2 (HNO.out k g hk hg))).mono ?_
      rintro e w3 ⟨rfl, bel3⟩
      have S3 := Lib.hid (S.out.go bel3)
      have BX3 := Lib.hid (BX.out.go bel3)
      have hz3 := S3.out.bel.size
      clear bel3 hc9 hbc S BX
      by_cases hm0 : m = 0
      · subst hm0
        obtain ⟨rfl, rfl⟩ := S3.out.nil rfl
        go_wp2_with (at_builtin; refine wpList_push2 _ rfl _ _ 28 2 rfl Try.underlying28 (.int .i64 0) 8 Try.info2 rfl w3.heap.size _ 0 [] rfl (World.ownsRow_nil _ _ _ _) _ rfl rfl (by omega) (by omega) (Nat.le_refl _) ?_)
        intro A5 c5 w5 own5 gr5
        have hk0 : K = [] := by have := S3.out.word.1; simpa using this
        have S5 := Lib.hid (S3.out.push (x := (K0 : Int)) (by rw [hk0]; exact own_base own5 hz3) (fun _ k hk => (own5.lt k hk).1) gr5)
        clear own5 gr5 hk0
        have BX5 := Lib.hid (BX2.out.go (S5.out.bel.mono (Nat.le_refl _)))
        have hc9 := S5.out.cell
        have hf9 := S5.out.free
        have hbc := BX5.out.cell
        have hc := cell_be HCW.out BX5.out.below
        have hcy := cell_be HCYW.out BX5.out.below
        have hss : (w5.setCell ⟨g9, 0, none⟩ (.int .i64 (z : Int))).heap.size = w5.heap.size := by simp
        have h7 := (S5.out.put z).next.go (below_drewN (Below.refl _ _) 1)
        rw [hss] at h7
        have S7 := Lib.hid h7
        have hlt9 := S5.out.glt.2
        clear hss h7
        go_wp2
        go_still_tail 8, (by kernel_rfl)
        go_wp2
        go_roundg e'
        case measure => exact Nat.lt_succ_self _
        case rel => exact ⟨e', z, _, c5, _, A5, K ++ [(K0 : Int)], rfl, rfl, rfl, hme', S7.out, FW2.out⟩
      · go_wp2_with (at_builtin; refine wpList_push2 _ rfl _ _ 28 2 rfl Try.underlying28 (.int .i64 0) 8 Try.info2 rfl W2.heap.size _ _ _ rfl S3.out.word _ rfl rfl (by omega) (by omega) hz3 ?_)
        intro A5 c5 w5 own5 gr5
        have S5 := Lib.hid (S3.out.push (x := (K0 : Int)) own5 (fun h0 => absurd h0 hm0) gr5)
        clear own5 gr5
        have BX5 := Lib.hid (BX2.out.go (S5.out.bel.mono (Nat.le_refl _)))
        have hc9 := S5.out.cell
        have hf9 := S5.out.free
        have hbc := BX5.out.cell
        have hc := cell_be HCW.out BX5.out.below
        have hcy := cell_be HCYW.out BX5.out.below
        have hss : (w5.setCell ⟨g9, 0, none⟩ (.int .i64 (z : Int))).heap.size = w5.heap.size := by simp
        have h7 := (S5.out.put z).next.go (below_drewN (Below.refl _ _) 1)
        rw [hss] at h7
        have S7 := Lib.hid h7
        have hlt9 := S5.out.glt.2
        clear hss h7
        go_wp2
        go_still_tail 8, (by kernel_rfl)
        go_wp2
        go_roundg e'
        case measure => exact Nat.lt_succ_self _
        case rel => exact ⟨e', z, _, c5, _, A5, K ++ [(K0 : Int)], rfl, rfl, rfl, hme', S7.out, FW2.out⟩
set_option maxHeartbeats 1600000 in
theorem iFirstWord_any {A : Option Addr} {c N : Nat} {xss : List (List Int)} (k1 : Int) (k2 : Int) (w : World) (hx : xss.length = N) (ha : RdSS w A xss) (hN : N ≤ 1048576) (hr : ∀ xs ∈ xss, (xs.length : Int) ≤ 1048576) :
    Calls Try.prog 26 #[.agg #[.slice A N c], .int .i64 k1, .int .i64 k2] w (RetS w (fwR xss k1 k2) (fwC xss k1 k2)) := by
  have HX := Lib.hid hx
  have HA := Lib.hid ha
  have HR := Lib.hid hr
  cases ho : okMan xss
  · have h1 : fwR xss k1 k2 = [] := by simp [fwR, ho]
    have h2 : fwC xss k1 k2 = 1 := by simp [fwC, ho]
    rw [h1, h2]
    have HO := Lib.hid ho
    clear hx ha hr ho h1 h2
    go_enter Try.func26, Try.ntmps26
    go_wp2_with fail
    refine (iMan_any _ HX.out (HA.out.al _) hN HR.out).mono ?_
    rintro e w1 ⟨rfl, bel⟩
    rw [HO.out]
    have BEL := Lib.hid bel
    clear bel
    go_wp2
    go_ret2
    exact ⟨none, 0, rfl, World.ownsRow_nil _ _ _ _, (below1 w _).trans (BEL.out.mono (by simp))⟩
  · have hman := okMan_iff.1 ho
    have hsys := hman.sys
    have hn4 := hman.f4
    have hn2 := hman.f2
    have hpos := hman.pos hx
    have hallq : ∀ q : Nat, q < flN xss → (orbL xss (flN xss) q).length = flN xss := fun q hq => hman.all hq
    obtain ⟨b, o, A0, c0, rfl, hc0⟩ := man_row0 hman ha
    obtain ⟨n, hn⟩ : ∃ n, flN xss = n := ⟨_, rfl⟩
    rw [hn] at hc0 hsys hn4 hn2 hallq
    have HC0 := Lib.hid hc0
    have HO := Lib.hid ho
    have HSY := Lib.hid hsys
    have HALLQ := Lib.hid hallq
    have HMAN := Lib.hid hman
    have HFL := Lib.hid hn
    have BX0 := Lib.hid (Bx.start w (.slice (some ⟨b, o, none⟩) N c) 26)
    have hn6 : n ≤ 1048576 := by omega
    cases hf0 : flagB n k1
    · have h1 : fwR xss k1 k2 = [] := by simp [fwR, ho, hn, hf0]
      have h2 : fwC xss k1 k2 = 2 := by simp [fwC, ho, hn, hf0]
      rw [h1, h2]
      have HF0 := Lib.hid hf0
      clear hx ha hr ho hman hn hc0 hsys hallq h1 h2 hf0
      go_enter Try.func26, Try.ntmps26
      go_wp2_with fail
      refine (iMan_any _ HX.out (HA.out.al _) hN HR.out).mono ?_
      rintro e w1 ⟨rfl, bel⟩
      rw [HO.out]
      have BX1 := Lib.hid (BX0.out.go bel)
      have HC1 := Lib.hid (cell_be (cell_al HC0.out _) bel)
      have hbc1 := BX1.out.cell
      clear bel BX0
      go_wp2_with fail
      refine (iFlag_bel _ _ hpos HC1.out hn6 HF0.out).mono ?_
      rintro e w2 ⟨rfl, bel⟩
      have BX2 := Lib.hid (BX1.out.go bel)
      have HC2 := Lib.hid (cell_be HC1.out bel)
      have hbc2 := BX2.out.cell
      clear bel hbc1
      go_wp2
      go_ret2
      exact ⟨none, 0, rfl, World.ownsRow_nil _ _ _ _, BX2.out.below⟩
    · skip
      cases hf1 : flagB n k2
      · have h1 : fwR xss k1 k2 = [] := by simp [fwR, ho, hn, hf0, hf1]
        have h2 : fwC xss k1 k2 = 2 := by simp [fwC, ho, hn, hf0, hf1]
        rw [h1, h2]
        have HF1 := Lib.hid hf1
        have HF0 := Lib.hid hf0
        clear hx ha hr ho hman hn hc0 hsys hallq h1 h2 hf0 hf1
        go_enter Try.func26, Try.ntmps26
        go_wp2_with fail
        refine (iMan_any _ HX.out (HA.out.al _) hN HR.out).mono ?_
        rintro e w1 ⟨rfl, bel⟩
        rw [HO.out]
        have BX1 := Lib.hid (BX0.out.go bel)
        have HC1 := Lib.hid (cell_be (cell_al HC0.out _) bel)
        have hbc1 := BX1.out.cell
        clear bel BX0
        go_wp2_with fail
        refine (iFlag_bel _ _ hpos HC1.out hn6 HF0.out).mono ?_
        rintro e w2 ⟨rfl, bel⟩
        have BX2 := Lib.hid (BX1.out.go bel)
        have HC2 := Lib.hid (cell_be HC1.out bel)
        have hbc2 := BX2.out.cell
        clear bel hbc1
        go_wp2_with fail
        refine (iFlag_bel _ _ hpos HC2.out hn6 HF1.out).mono ?_
        rintro e w3 ⟨rfl, bel⟩
        have BX3 := Lib.hid (BX2.out.go bel)
        have HC3 := Lib.hid (cell_be HC2.out bel)
        have hbc3 := BX3.out.cell
        clear bel hbc2
        go_wp2
        go_ret2
        exact ⟨none, 0, rfl, World.ownsRow_nil _ _ _ _, BX3.out.below⟩
      · skip
        obtain ⟨p0, rfl, hp0⟩ := flagB_true hf0
        obtain ⟨p1, rfl, hp1⟩ := flagB_true hf1
        have h1 : fwR xss (p0 : Int) (p1 : Int) = fwRes xss (distL xss n p1) p0 := by simp [fwR, ho, hn, hf0, hf1]
        have h2 : fwC xss (p0 : Int) (p1 : Int) = fwCode (distL xss n p1) p0 := by simp [fwC, ho, hn, hf0, hf1]
        rw [h1, h2]
        have HF0 := Lib.hid hf0
        have HF1 := Lib.hid hf1
        clear hx ha hr ho hman hn hc0 hsys hallq h1 h2 hf0 hf1
        go_enter Try.func26, Try.ntmps26
        go_wp2_with fail
        refine (iMan_any _ HX.out (HA.out.al _) hN HR.out).mono ?_
        rintro e w1 ⟨rfl, bel⟩
        rw [HO.out]
        have BX1 := Lib.hid (BX0.out.go bel)
        have HC1 := Lib.hid (cell_be (cell_al HC0.out _) bel)
        have hbc1 := BX1.out.cell
        clear bel BX0
        go_wp2_with fail
        refine (iFlag_bel _ _ hpos HC1.out hn6 HF0.out).mono ?_
        rintro e w2 ⟨rfl, bel⟩
        have BX2 := Lib.hid (BX1.out.go bel)
        have HC2 := Lib.hid (cell_be HC1.out bel)
        have hbc2 := BX2.out.cell
        clear bel hbc1
        go_wp2_with fail
        refine (iFlag_bel _ _ hpos HC2.out hn6 HF1.out).mono ?_
        rintro e w3 ⟨rfl, bel⟩
        have BX3 := Lib.hid (BX2.out.go bel)
        have HC3 := Lib.hid (cell_be HC2.out bel)
        have hbc3 := BX3.out.cell
        clear bel hbc2
        have HAB := Lib.hid (HA.out.keep BX3.out.below)
        go_wp2_with fail
        refine (ifw_any _ HX.out HAB.out hN HSY.out HC3.out hpos hp0 hp1 hn2 (HALLQ.out _ hp1) (fun g hg => (HMAN.out.row g hg).2.2)).mono ?_
        rintro e w9 ⟨A9, c9, rfl, own, bel⟩
        have hfar := dfar_of HSY.out hp1 (HALLQ.out _ hp1) (fun g hg => (HMAN.out.row g hg).2.2)
        obtain ⟨d0, hd0, hd0n⟩ := hfar.at_ p0 hp0
        have HD0 := Lib.hid (show fz (distL xss n p1) p0 = (d0 : Int) from fz_at hd0)
        rw [fwL_len, HD0.out, Int.toNat_natCast] at own ⊢
        have OWN := Lib.hid own
        have BX9 := Lib.hid (BX3.out.go bel)
        have hz := BX3.out.below.size
        clear own bel hbc3 hfar hd0
        by_cases h64 : 64 < d0
        · have h64i : (64 : Int) < (d0 : Int) := by omega
          have HE := Lib.hid (show fwRes xss (distL xss n p1) p0 = [] by unfold fwRes; rw [HD0.out, if_pos h64i])
          have HC := Lib.hid (show fwCode (distL xss n p1) p0 = 3 by unfold fwCode; rw [HD0.out, if_pos h64i])
          go_wp2
          go_ret2
          exact retS_no HE.out HC.out BX9.out.below
        · have h64i : ¬ (64 : Int) < (d0 : Int) := by omega
          have HE := Lib.hid (show fwL xss (distL xss n p1) d0 p0 = fwRes xss (distL xss n p1) p0 by unfold fwRes; rw [HD0.out, if_neg h64i, Int.toNat_natCast])
          have HC := Lib.hid (show fwCode (distL xss n p1) p0 = 0 by unfold fwCode; rw [HD0.out, if_neg h64i])
          go_wp2
          go_ret2
          exact retS_yes HE.out HC.out OWN.out hz BX9.out.below
end Go.Proofs.Ytckmmgepoccopaa
