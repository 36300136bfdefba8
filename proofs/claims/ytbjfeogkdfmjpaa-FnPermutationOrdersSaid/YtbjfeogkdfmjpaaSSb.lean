import Derived.Test.YtbjfeogkdfmjpaaSSa
namespace Go.Proofs.Ytbjfeogkdfmjpaa
open Go.RowKit

/-- What holds of the copy of rows when k of them are copied. -/
def SSTo (w wr : World) (n k : Nat) (xss : List (List Int)) : Prop :=
  ∃ vals : List Value, vals.length = k ∧ wr.ownsRow w.heap.size 24 1 (.slice (some ⟨w.heap.size, 0, none⟩) n n) n (vals ++ List.replicate (n - k) (.slice none 0 0)) ∧ w.heap.size < wr.heap.size ∧
    (∀ (j : Nat) (xs : List Int), j < k → xss[j]? = some xs → ∃ (A' : Option Addr) (c' : Nat), vals[j]? = some (Value.slice A' xs.length c') ∧ wr.ownsRow w.heap.size 2 1 (.slice A' xs.length c') xs.length (ints xs) ∧ InB (.slice A' xs.length c') (w.heap.size + 1) wr.heap.size) ∧
    (∀ (i j : Nat) (u v : Value), i ≠ j → vals[i]? = some u → vals[j]? = some v → ∀ k, u.ownBlock = some k → v.ownBlock ≠ some k) ∧ Below w.heap.size w wr
theorem ssto_start (w : World) (n : Nat) (xss : List (List Int)) (hm : n ≤ maxLen) : SSTo w (w.alloc (.cells (madeCells #[.slice none 0 0] n) 24)) n 0 xss :=
  ⟨[], rfl, by simpa using make_own w (.slice none 0 0) n 24 hm, by simp, fun j xs h => absurd h (by omega), fun i j u v _ h => by simp at h, (Below.refl _ _).alloc (Nat.le_refl _) _⟩
theorem vals_set {vals : List Value} {n k : Nat} {z u : Value} (h : vals.length = k) (hk : k < n) : (vals ++ List.replicate (n - k) z).set k u = (vals ++ [u]) ++ List.replicate (n - (k + 1)) z := by
  have e : n - k = (n - (k + 1)) + 1 := by omega
  rw [List.set_append_right _ _ (by omega), e, List.replicate_succ, h, Nat.sub_self]
  simp
theorem ssto_step {w wr w1 : World} {n k c1 : Nat} {xss : List (List Int)} {xs : List Int} {A1 : Option Addr} (h : SSTo w wr n k xss) (hk : k < n) (hx : xss[k]? = some xs) (hb : Below wr.heap.size wr w1)
    (own : w1.ownsRow wr.heap.size 2 1 (.slice A1 xs.length c1) xs.length (ints xs)) :
    (w1.cell? ⟨w.heap.size, k, none⟩ = some (.slice none 0 0) ∧ w1.frozen? ⟨w.heap.size, k, none⟩ = false) ∧
    SSTo w (w1.setCell ⟨w.heap.size, k, none⟩ (.slice A1 xs.length c1)) n (k + 1) xss := by
  obtain ⟨vals, hl, ho, hsz, hrows, hdis, bel⟩ := h
  have ho1 := own_below ho hb (Nat.le_refl _)
  have hst := ho1.stored k (.slice A1 xs.length c1)
  have ht : Turns w.heap.size (w.heap.size + 1) w1 (w1.setCell ⟨w.heap.size, k, none⟩ (.slice A1 xs.length c1)) :=
    Turns.of_grown (v := .slice (some ⟨w.heap.size, 0, none⟩) n n) hst.2 (fun g hg => by simp [Value.ownBlock] at hg; omega)
  have hsz1 := hb.size
  have hin : InB (.slice A1 xs.length c1) wr.heap.size w1.heap.size := own_in own
  refine ⟨⟨own_cell (u := .slice none 0 0) ho1 (by subst hl; rw [List.getElem?_append_right (Nat.le_refl _), Nat.sub_self, List.getElem?_replicate, if_pos (by omega)]), ho1.frozenAt k⟩,
    vals ++ [.slice A1 xs.length c1], by simp [hl], by have := hst.1; rwa [vals_set hl hk] at this, by simp; omega, ?_, ?_, (bel.trans (hb.mono (by omega))).setCell (by simp) _⟩
  · intro j ys hj hy
    by_cases e : j = k
    · subst e
      rw [hx] at hy
      injection hy with hy
      subst hy
      exact ⟨A1, c1, by simp [hl], own_base (ht.own own hin (by omega)) (by omega), inB_wide hin (by omega) (by simp)⟩
    · obtain ⟨A', c', h1, h2, h3⟩ := hrows j ys (by omega) hy
      have h2' := own_below h2 hb (Nat.le_refl _)
      exact ⟨A', c', by rw [List.getElem?_append_left (by omega)]; exact h1, ht.own h2' (inB_wide h3 (Nat.le_refl _) hsz1) (by omega), inB_wide h3 (Nat.le_refl _) (by simp; omega)⟩
  · have old : ∀ (i : Nat) (u : Value), i < k → vals[i]? = some u → ∀ g, u.ownBlock = some g → g < wr.heap.size := by
      intro i u hi hu g hg
      have hlen : i < xss.length := by
        have := (List.getElem?_eq_some_iff.1 hx).1
        omega
      obtain ⟨A', c', h1, _, h3⟩ := hrows i xss[i] hi (List.getElem?_eq_getElem hlen)
      rw [hu] at h1
      injection h1 with h1
      subst h1
      exact (h3 g hg).2
    intro i j u v hij hu hv g hg
    by_cases hi : i < k
    · rw [List.getElem?_append_left (by omega)] at hu
      by_cases hj : j < k
      · rw [List.getElem?_append_left (by omega)] at hv
        exact hdis i j u v hij hu hv g hg
      · have hj' : j = k := by
          have := (List.getElem?_eq_some_iff.1 hv).1
          simp at this; omega
        subst hj'
        simp [← hl] at hv
        subst hv
        intro h2
        have h3 := hin g h2
        have h4 := old i u hi hu g hg
        omega
    · have hi' : i = k := by
        have := (List.getElem?_eq_some_iff.1 hu).1
        simp at this; omega
      subst hi'
      simp [← hl] at hu
      subst hu
      have hj : j < i := by
        have := (List.getElem?_eq_some_iff.1 hv).1
        simp at this; omega
      rw [List.getElem?_append_left (by omega)] at hv
      intro h2
      have h3 := hin g hg
      have h4 := old j v hj hv g h2
      omega
theorem ssto_done {w wr : World} {n k : Nat} {xss : List (List Int)} (h : SSTo w wr n k xss) (hk : n ≤ k) (hx : xss.length = n) : OwnSS wr w.heap.size wr.heap.size 24 (some ⟨w.heap.size, 0, none⟩) n n xss ∧ Below w.heap.size w wr := by
  obtain ⟨vals, hl, ho, hsz, hrows, hdis, bel⟩ := h
  have e : n - k = 0 := by omega
  rw [e, List.replicate_zero, List.append_nil] at ho
  exact ⟨⟨vals, ho, own_in ho, hx, fun j xs hj => by
    obtain ⟨A', c', h1, h2, h3⟩ := hrows j xs (by have := (List.getElem?_eq_some_iff.1 hj).1; omega) hj
    exact ⟨A', c', h1, h2, inB_wide h3 (by omega) (Nat.le_refl _)⟩, hdis⟩, bel⟩

set_option maxHeartbeats 800000 in
theorem toSS_any {A : Option Addr} {c n : Nat} {xss : List (List Int)} (w : World) (hx : xss.length = n) (ha : RdSS w A xss) (hn : n ≤ 1048576) (hr : ∀ xs ∈ xss, (xs.length : Int) ≤ 1048576) :
    Calls Try.prog 61 #[.slice A n c] w fun e w' => ∃ A' c', e = .returned (.slice A' n c') ∧ OwnSS w' w.heap.size w'.heap.size 24 A' n c' xss ∧ Below w.heap.size w w' := by
  have HX := Lib.hid hx
  have HA := Lib.hid ha
  have HR := Lib.hid hr
  clear hx ha hr
  have hmk := run_make_row' (P := Try.prog) 42 24 (.slice none 0 0) 24 Try.underlying42 Try.infoS rfl .i64 .i64 n (by omega) (by omega)
  go_enter Try.func61, Try.ntmps61
  go_wp2
  clear hmk
  go_loopw [4] (fun i wr => ∃ k : Nat, k ≤ n ∧ i = .int .i64 k ∧ SSTo w wr n k xss) (fun i _ => n - (intOf i).toNat)
  case atStart => exact ⟨0, Nat.zero_le _, rfl, ssto_start w n xss (by unfold maxLen; omega)⟩
  case round =>
    obtain ⟨k, hk, rfl, st⟩ := hrel
    have ST := Lib.hid st
    clear st
    by_cases hlt : k < n
    · obtain ⟨b, o, A', c', xs, rfl, hg, hc, hrd, hm⟩ := (HA.out.keep (show Below w.heap.size w wr from by obtain ⟨_, _, _, _, _, _, h⟩ := ST.out; exact h)).row (k := k) (by rw [HX.out]; exact hlt)
      have HG := Lib.hid hg
      have HRD := Lib.hid hrd
      have hb := HR.out xs (List.mem_of_getElem? hg)
      clear hg hrd
      go_wp2_with fail
      refine (to_any wr rfl HRD.out (by omega)).mono ?_
      rintro e w1 ⟨A1, c1, rfl, own, bel⟩
      obtain ⟨⟨hcell, hfrz⟩, st⟩ := ssto_step ST.out hlt HG.out bel own
      have ST1 := Lib.hid st
      clear own bel st
      go_wp2
      go_roundw
      case rel => exact ⟨k + 1, by omega, by go_num, ST1.out⟩
      case measure => simp [intOf]; omega
    · go_wp2
      go_ret
      have h := ssto_done ST.out (by omega) HX.out
      exact ⟨_, _, rfl, h.1, h.2⟩

theorem eq_true {A B : Option Addr} {c d : Nat} {xs : List Int} {n m : Nat} (w : World) (hx : xs.length = n) (hy : xs.length = m) (ha : Rd w A (ints xs)) (hb : Rd w B (ints xs)) (hn : n ≤ 9223372036854775807) :
    Calls Try.prog 50 #[.slice A n c, .slice B m d] w fun e w' => e = .returned (.bool true) ∧ ∃ j, w' = w.drewN j :=
  (eq_any w hx hy ha hb hn).mono fun _ _ ⟨he, hj⟩ => ⟨by rw [he, decide_eq_true rfl], hj⟩

set_option maxHeartbeats 800000 in
theorem eqSS_same {A B : Option Addr} {c d n m : Nat} {xss : List (List Int)} (w : World) (hx : xss.length = n) (hy : xss.length = m) (ha : RdSS w A xss) (hb : RdSS w B xss) (hn : n ≤ 9223372036854775807) :
    Calls Try.prog 62 #[.slice A n c, .slice B m d] w fun e w' => e = .returned (.bool true) ∧ Below w.heap.size w w' := by
  obtain rfl : n = m := by omega
  have HX := Lib.hid hx
  have HA := Lib.hid ha
  have HB := Lib.hid hb
  clear hx hy ha hb
  have hne : ((n : Int) != (n : Int)) = false := by simp
  go_enter Try.func62, Try.ntmps62
  go_wp2
  go_loopw [5] (fun i wr => ∃ k : Nat, k ≤ n ∧ i = .int .i64 k ∧ Below w.heap.size w wr) (fun i _ => n - (intOf i).toNat)
  case atStart => exact ⟨0, Nat.zero_le _, rfl, Below.refl _ _⟩
  case round =>
    obtain ⟨k, hk, rfl, bel⟩ := hrel
    have BEL := Lib.hid bel
    clear bel
    by_cases hlt : k < n
    · obtain ⟨b, o, A', c', xs, rfl, hg, hc, hrd, hm⟩ := (HA.out.keep BEL.out).row (k := k) (by rw [HX.out]; exact hlt)
      obtain ⟨b2, o2, A2, c2, ys, rfl, hg2, hc2, hrd2, hm2⟩ := (HB.out.keep BEL.out).row (k := k) (by rw [HX.out]; exact hlt)
      obtain rfl : ys = xs := by rw [hg] at hg2; injection hg2 with hg2; exact hg2.symm
      have HRD := Lib.hid hrd
      have HRD2 := Lib.hid hrd2
      clear hg hg2 hrd hrd2
      go_wp2
      go_quiet ((go_at_call 50; refine Calls.quiet_of ((eq_true _ rfl rfl HRD.out HRD2.out hm))))
      go_wp2
      go_roundw
      case rel => exact ⟨k + 1, by omega, by go_num, below_drewN BEL.out _⟩
      case measure => simp [intOf]; omega
    · go_wp2
      go_ret
      exact ⟨rfl, BEL.out⟩
end Go.Proofs.Ytbjfeogkdfmjpaa
