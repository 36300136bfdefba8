/- slices.Clone at []int64; impl.Poset.hasMeets. -/
import Derived.Test.YtnfngfpfihkclaaPt
import Derived.Test.YtnfngfpfihkclaaLm
import Derived.Test.YtnfngfpfihkclaaL9
import Derived.Lib.SliceRun
namespace Go.Proofs.Ytnfngfpfihkclaa
open Go.RowKit

set_option maxHeartbeats 800000 in
theorem clone_any {A : Option Addr} {c n : Nat} {xs : List Int} (w : World) (hx : xs.length = n) (ha : Rd w A (ints xs)) (hn : n ≤ 1048576) :
    Calls Try.prog 116 #[.slice A n c] w fun e w' => ∃ A' c', e = .returned (.slice A' n c') ∧ w'.ownsRow w.heap.size 2 1 (.slice A' n c') n (ints xs) ∧ Below w.heap.size w w' := by
  have hq := fun (w : World) (a : Option Addr) (n c : Nat) => Lib.run_eql_slice_nil (P := Try.prog) w 28 2 a n c 0 0 Try.underlying28
  cases A with
  | none =>
    have h0 : xs = [] := by
      cases xs with
      | nil => rfl
      | cons x r => obtain ⟨b, o, h, _⟩ := ha (by simp); cases h
    subst h0
    simp at hx
    subst hx
    go_enter Try.func116, Try.ntmps116
    go_wp2
    go_ret
    exact ⟨none, 0, rfl, World.ownsRow_nil _ _ _ _, Below.refl _ _⟩
  | some ad =>
    have hus : ∀ (j : Nat) (u : Value), (ints xs)[j]? = some u → (w.alloc (.cells #[] 2)).cell? (ad.add j) = some u := fun j u hu => by
      obtain ⟨b, o, h, hc⟩ := ha (by have := (List.getElem?_eq_some_iff.1 hu).1; omega)
      injection h with h
      subst h
      rw [Addr.add_zero_spot]
      exact cell_al (hc j u hu) _
    have hone : ∀ u ∈ ints xs, u.oneCell' = true := fun u hu => by
      obtain ⟨x, _, rfl⟩ := List.mem_map.1 hu
      rfl
    have ON0 := Lib.hid (show (w.alloc (.cells #[] 2)).ownsRow w.heap.size 2 1 (.slice (some ⟨w.heap.size, 0, none⟩) 0 0) 0 [] from by
      have := World.ownsRow_lit (base := w.heap.size) (e := 2) (size := 1) w #[] 0 (Nat.le_refl _) (by decide) (by simp)
      simpa using this)
    have HUS := Lib.hid hus
    have HONE := Lib.hid hone
    have hl : (ints xs).length = n := by simpa using hx
    have HL := Lib.hid hl
    clear hx ha hus hone hl
    go_enter Try.func116, Try.ntmps116
    go_wp2_with (at_builtin; refine wpList_cat _ rfl _ _ 28 2 rfl Try.underlying28 (.int .i64 0) 8 Try.info2 rfl w.heap.size _ 0 [] rfl ON0.out ad n c (ints xs) rfl HL.out HUS.out HONE.out (by omega) (by omega) (by simp) ?_)
    intro A' c' w' own gr
    have OW := Lib.hid own
    have GR := Lib.hid gr
    clear own gr
    go_wp2
    go_ret
    refine ⟨A', c', rfl, ?_, (below1 w _).grown GR.out (by simp) fun q hq => by simp [Value.ownBlock] at hq; omega⟩
    exact OW.out

/-- Row k is replaced by a row of its own. -/
theorem ownSS_putrow {w : World} {lo hi e n c k g c1 bc : Nat} {A1 : Option Addr} {xss : List (List Int)} {D : List Int} (h : OwnSS w lo hi e (some ⟨g, 0, none⟩) n c xss) (he : e ≠ 2) (hk : k < n) (hD : w.ownsRow bc 2 1 (.slice A1 D.length c1) D.length (ints D)) (hbc : hi ≤ bc) (hhi : hi ≤ w.heap.size) :
    OwnSS (w.setCell ⟨g, k, none⟩ (.slice A1 D.length c1)) lo w.heap.size e (some ⟨g, 0, none⟩) n c (xss.set k D) ∧ w.frozen? ⟨g, k, none⟩ = false ∧ (∃ u, w.cell? ⟨g, k, none⟩ = some u) ∧ Turns lo hi w (w.setCell ⟨g, k, none⟩ (.slice A1 D.length c1)) := by
  obtain ⟨vals, h1, hp, h2, h3, h4⟩ := h
  have hg1 := hp g rfl
  have hst := h1.stored k (.slice A1 D.length c1)
  have hvl : vals.length = n := by have := h1.1; omega
  have hin := own_in hD
  refine ⟨⟨vals.set k (.slice A1 D.length c1), hst.1, inB_wide hp (Nat.le_refl _) (by omega), by simp [h2], ?_, ?_⟩, h1.frozenAt k, ⟨_, own_cell h1 (List.getElem?_eq_getElem (by omega))⟩, (turns_set w g k _).wide hg1.1 (by omega)⟩
  · intro j zs hj
    by_cases ej : j = k
    · subst ej
      rw [List.getElem?_set_self (by omega)] at hj
      injection hj with hj
      subst hj
      exact ⟨A1, c1, by rw [List.getElem?_set_self (by omega)], own_base (hD.kept hst.2 (own_ne hD h1 (fun e => he e.symm))) (by omega), inB_wide hin (by omega) (Nat.le_refl _)⟩
    · rw [List.getElem?_set_ne (fun e => ej e.symm)] at hj
      obtain ⟨A2, c2, e2, o2, p2⟩ := h3 j zs hj
      exact ⟨A2, c2, by rw [List.getElem?_set_ne (fun e => ej e.symm)]; exact e2, o2.kept hst.2 (own_ne o2 h1 (fun e => he e.symm)), inB_wide p2 (Nat.le_refl _) hhi⟩
  · have hother : ∀ (j : Nat) (v : Value), j ≠ k → vals[j]? = some v → ∀ b, v.ownBlock = some b → (Value.slice A1 D.length c1).ownBlock ≠ some b := by
      intro j v hj hv b hb hb2
      have hjl : j < xss.length := by have := (List.getElem?_eq_some_iff.1 hv).1; omega
      obtain ⟨A2, c2, e2, o2, p2⟩ := h3 j _ (List.getElem?_eq_getElem hjl)
      rw [hv] at e2
      injection e2 with e2
      subst e2
      have := p2 b hb
      have := hin b hb2
      omega
    intro i j u v hij hu hv b hb
    by_cases ei : i = k
    · subst ei
      rw [List.getElem?_set_self (by omega)] at hu
      injection hu with hu
      subst hu
      rw [List.getElem?_set_ne hij] at hv
      intro hvb
      exact hother j v (fun e => hij e.symm) hv b hvb hb
    · rw [List.getElem?_set_ne (fun e => ei e.symm)] at hu
      by_cases ej : j = k
      · subst ej
        rw [List.getElem?_set_self (by omega)] at hv
        injection hv with hv
        subst hv
        exact hother i u hij hu b hb
      · rw [List.getElem?_set_ne (fun e => ej e.symm)] at hv
        exact h4 i j u v hij hu hv b hb

/-- The first k lists of lower elements. -/
def lowT (bss : List (List Int)) (n k : Nat) : List (List Int) := (List.range k).map (lowL bss) ++ List.replicate (n - k) []
theorem lowT_zero (bss : List (List Int)) (n : Nat) : lowT bss n 0 = List.replicate n [] := by simp [lowT]
theorem lowT_set {bss : List (List Int)} {n k : Nat} {b : List Int} (hk : k < n) (hb : bss[k]? = some b) : (lowT bss n k).set k (b ++ [(k : Int)]) = lowT bss n (k + 1) := by
  unfold lowT
  rw [List.set_append_right _ _ (by simp), List.range_succ, List.map_append]
  have e1 : k - (List.map (lowL bss) (List.range k)).length = 0 := by simp
  have e2 : n - k = n - (k + 1) + 1 := by omega
  rw [e1, e2, List.replicate_succ, List.set_cons_zero, List.append_assoc]
  simp [lowL, List.getD, hb]
theorem lowT_at {bss : List (List Int)} {n k : Nat} (hk : k < n) : (lowT bss n n)[k]? = some (lowL bss k) := by
  unfold lowT
  rw [List.getElem?_append_left (by simpa using hk)]
  simp [hk]
/-- What the first t lower elements of f have in common with those of e. -/
def comT (bss : List (List Int)) (e f t : Nat) : List Int := ((lowL bss f).take t).filter fun d => decide (d ∈ lowL bss e)
theorem comT_succ {bss : List (List Int)} {e f t : Nat} {d : Int} (h : (lowL bss f)[t]? = some d) : comT bss e f (t + 1) = comT bss e f t ++ (if d ∈ lowL bss e then [d] else []) := by
  unfold comT
  rw [List.take_add_one, h, List.filter_append]
  congr 1
  by_cases hd : d ∈ lowL bss e
  · rw [if_pos hd]; simp [hd]
  · rw [if_neg hd]; simp [hd]
theorem comT_all {bss : List (List Int)} {e f t : Nat} (h : (lowL bss f).length ≤ t) : comT bss e f t = comL bss e f := by
  unfold comT comL
  rw [List.take_of_length_le h]
theorem comT_len {bss : List (List Int)} {e f t : Nat} : (comT bss e f t).length ≤ t := by
  unfold comT
  exact Nat.le_trans (List.length_filter_le _ _) (by simp; omega)

set_option maxHeartbeats 6400000 in
set_option maxRecDepth 100000 in
theorem imeets_any {R : Int} {A B : Option Addr} {N c M d : Nat} {xs : List Int} {bss : List (List Int)} (w : World) (hx : xs.length = N) (hy : bss.length = M) (hb : RdSS w B bss) (ok : OkPos R xs bss) :
    Calls Try.prog 76 #[.agg #[.int .i64 R, .slice A N c, .slice B M d]] w fun e w' => e = .returned (.bool (pB (MeetsOk bss))) ∧ Below w.heap.size w w' := by
  have hMN : M = N := by have := ok.ranks.len; omega
  subst hMN
  have hN5 := ok.ranks.n
  rw [hx] at hN5
  have HX := Lib.hid hx
  have HY := Lib.hid hy
  have HB := Lib.hid hb
  have OK := Lib.hid ok
  have BX0 := Lib.hid (Bp.start w #[.int .i64 R, .slice A M c, .slice B M d] 30)
  have q0 := BX0.out.cell0
  have q1 := BX0.out.cell1
  have q2 := BX0.out.cell2
  have hmk2 := run_make_row' (P := Try.prog) 24 28 (.slice none 0 0) 24 Try.underlying24 Try.infoS rfl .i64 .i64 M (by omega) (by omega)
  clear hx hy hb ok
  go_enter Try.func76, Try.ntmps76
  go_wp2_with fail
  refine (elems_bel _).mono ?_
  rintro e w1 ⟨rfl, bel⟩
  have BX1 := Lib.hid (BX0.out.go bel)
  clear bel q0 q1 q2
  have BX2 := Lib.hid (BX1.out.al (.cells (madeCells #[.slice none 0 0] M) 28))
  have S2 := Lib.hid (show OwnSS (w1.alloc (.cells (madeCells #[.slice none 0 0] M) 28)) w1.heap.size (w1.heap.size + 1) 28 (some ⟨w1.heap.size, 0, none⟩) M M (lowT bss M 0) from by
    rw [lowT_zero]; exact ownSS_make w1 M _ (by unfold maxLen; omega))
  have hz1 := BX1.out.size
  have q2 := BX2.out.cell2
  go_wp2
  clear hmk2 q2
  go_loopw [20] (fun v wr => ∃ k hi : Nat, k ≤ M ∧ v = .int .i64 k ∧ OwnSS wr w1.heap.size hi 28 (some ⟨w1.heap.size, 0, none⟩) M M (lowT bss M k) ∧ hi ≤ wr.heap.size ∧ Bp w wr #[.int .i64 R, .slice A M c, .slice B M d] 30) (fun v _ => M - (intOf v).toNat)
  case atStart => exact ⟨0, _, Nat.zero_le _, rfl, S2.out, by simp, BX2.out⟩
  case round =>
    obtain ⟨k, hi, hk, rfl, os, hhi, bx⟩ := hrel
    have OS := Lib.hid os
    have BX := Lib.hid bx
    have hz9 := bx.size
    clear os bx S2 BX2
    by_cases hlt : k < M
    · obtain ⟨b, o, A2, c2, bs, rfl, hg, hc0, hrd, hm⟩ := HB.out.row (k := k) (by rw [HY.out]; exact hlt)
      have hc := cell_be hc0 BX.out.below
      obtain ⟨n2, hl2⟩ : ∃ l, bs.length = l := ⟨_, rfl⟩
      have hbl : bs.length ≤ 500 := by
        have h1 := (row_pw OK.out hg).imp (S := fun a b : Int => a ≠ b) fun h => by omega
        have h2 : bs.length ≤ ((List.range M).map fun (i : Nat) => (i : Int)).length := List.Nodup.length_le_of_subset h1 (fun z hz => by
          obtain ⟨j, _, _, h3, h4, _⟩ := OK.out.el hg hz
          exact List.mem_map.2 ⟨j, by simp; omega, h3.symm⟩)
        simp at h2
        omega
      rw [hl2] at hc hm hbl
      have HL2 := Lib.hid hl2
      have HG := Lib.hid hg
      have HRD := Lib.hid (hrd.keep BX.out.below)
      clear hl2 hg hrd hc0
      go_wp2_with fail
      refine (clone_any _ HL2.out HRD.out (by omega)).mono ?_
      rintro e w2 ⟨A3, c3, rfl, own, bel⟩
      have OW := Lib.hid own
      have B2 := Lib.hid bel
      have hs2 := bel.size
      clear own bel hc
      go_wp2_with (at_builtin; refine wpList_push _ rfl _ _ 28 2 rfl Try.underlying28 (.int .i64 0) 8 Try.info2 rfl wr.heap.size _ n2 _ rfl OW.out _ rfl rfl (by omega) (by omega) hs2 ?_)
      intro A5 c5 w5 own5 bel5 _
      have B5 := Lib.hid (B2.out.trans bel5)
      have HD := Lib.hid (show (bs ++ [(k : Int)]).length = n2 + 1 by rw [List.length_append, HL2.out]; rfl)
      have hD : w5.ownsRow wr.heap.size 2 1 (.slice A5 (bs ++ [(k : Int)]).length c5) (bs ++ [(k : Int)]).length (ints (bs ++ [(k : Int)])) := by rw [HD.out]; simpa [ints] using own5
      have hs5 := B5.out.size
      obtain ⟨p1, p2, p3, p4⟩ := ownSS_putrow (ownSS_below OS.out B5.out (Nat.le_refl _)) (by decide) hlt hD hhi (by omega)
      rw [HD.out] at p1 p4
      rw [lowT_set hlt HG.out] at p1
      obtain ⟨u5, hu5⟩ := p3
      have OS6 := Lib.hid p1
      have BX6 := Lib.hid ((BX.out.go B5.out).tu p4 (by omega))
      clear own5 bel5 hD p1 p4
      go_wp2
      go_roundw
      case rel => exact ⟨k + 1, w5.heap.size, by omega, by go_num, OS6.out, by simp, BX6.out⟩
      case measure => simp [intOf]; omega
    · obtain rfl : k = M := by omega
      have h2 := OS.out
      obtain ⟨wl, hwl⟩ : ∃ wl, wl = wr := ⟨_, rfl⟩
      subst hwl
      go_wp2
      go_loopw [36] (fun v wr => ∃ a : Nat, a ≤ k ∧ v = .int .i64 a ∧ (∀ e f : Nat, f < e → e < a → MeetOk bss e f) ∧ Below wl.heap.size wl wr) (fun v _ => k - (intOf v).toNat)
      case atStart => exact ⟨0, Nat.zero_le _, rfl, fun e f _ h => absurd h (by omega), Below.refl _ _⟩
      case round =>
        obtain ⟨a, ha, rfl, hall, bel⟩ := hrel
        have HALL := Lib.hid hall
        have B1 := Lib.hid bel
        have BX3 := Lib.hid (BX.out.go bel)
        have OS3 := Lib.hid (ownSS_below OS.out bel (Nat.le_refl _))
        clear hall bel h2
        by_cases hak : a < k
        · obtain ⟨A2, c2, hcr, hor, _, _⟩ := ownSS_rowval OS3.out (lowT_at hak)
          obtain ⟨n2, hl2⟩ : ∃ l, (lowL bss a).length = l := ⟨_, rfl⟩
          have hn2 : n2 ≤ 501 := by
            have h1 := (low_pw OK.out (show a < bss.length by rw [HY.out]; exact hak)).imp (S := fun a b : Int => a ≠ b) fun h => by omega
            have h2 : (lowL bss a).length ≤ ((List.range k).map fun (i : Nat) => (i : Int)).length := List.Nodup.length_le_of_subset h1 (fun z hz => by
              obtain ⟨j, h3, h4⟩ := low_bd OK.out (show a < bss.length by rw [HY.out]; exact hak) hz
              exact List.mem_map.2 ⟨j, by simp; omega, h3.symm⟩)
            simp at h2
            omega
          rw [hl2] at hcr hor
          have HL2 := Lib.hid hl2
          have HRD := Lib.hid (own_rd hor)
          have HBD := Lib.hid (show ∀ x ∈ lowL bss a, ∃ j : Nat, x = (j : Int) ∧ j < k from fun x hx => by
            obtain ⟨j, h1, h2⟩ := low_bd OK.out (show a < bss.length by rw [HY.out]; exact hak) hx
            exact ⟨j, h1, by omega⟩)
          have q0 := BX3.out.cell0
          have q1 := BX3.out.cell1
          have q2 := BX3.out.cell2
          have aI : (a : Int) < (k : Int) := by omega
          clear hl2 hor
          go_wp2
          go_region_held3 (fun w' => w'.cell? ⟨w.heap.size, 0, none⟩ = some (.int .i64 R) ∧ w'.cell? ⟨w.heap.size, 1, none⟩ = some (.slice A k c) ∧ w'.cell? ⟨w.heap.size, 2, none⟩ = some (.slice B k d) ∧ w'.cell? ⟨w1.heap.size, a, none⟩ = some (.slice A2 n2 c2))
            (first | (exact ⟨q0, q1, q2, hcr⟩) | (exact S4.out) | (go_keep; done))
            (first
              | (go_at_call 110
                 refine (imarks_any _ (by omega) HL2.out (HRD.out.keep (below_drewN (Below.refl _ _) 1)) (by omega) HBD.out).mono ?_
                 rintro e w3 ⟨g3, rfl, own3, bel3⟩
                 have S4 := Lib.hid (And.intro (cell_be (cell_be q0 (below_drewN (Below.refl _ _) 1)) bel3) (And.intro (cell_be (cell_be q1 (below_drewN (Below.refl _ _) 1)) bel3) (And.intro (cell_be (cell_be q2 (below_drewN (Below.refl _ _) 1)) bel3) (cell_be (cell_be hcr (below_drewN (Below.refl _ _) 1)) bel3))))))
          have BX4 := Lib.hid ((BX3.out.go (below_drewN (Below.refl _ _) 1)).go bel3)
          have OS4 := Lib.hid (ownSS_below (ownSS_below OS3.out (below_drewN (Below.refl _ _) 1) (Nat.le_refl _)) bel3 (Nat.le_refl _))
          have hbd : Below wr.heap.size wr (wr.drewN 1) := below_drewN (Below.refl _ _) 1
          have B4 := Lib.hid (B1.out.trans ((hbd.trans (bel3.mono hbd.size)).mono B1.out.size))
          have OW3 := Lib.hid own3
          have iz : (0 : Int) ≤ (a : Int) := by omega
          clear own3 bel3 S4 q0 q1 q2 hcr hbd BX3 OS3 B1
          go_wp2
          go_loop [49] (fun v => ∃ f : Nat, f ≤ a ∧ v = .int .i64 f ∧ ∀ f' : Nat, f' < f → MeetOk bss a f') (fun v => a - (intOf v).toNat)
          case atStart => exact ⟨0, Nat.zero_le _, rfl, fun f' h => absurd h (by omega)⟩
          case round =>
            obtain ⟨f, hf, rfl, hal2⟩ := hrel
            have HAL2 := Lib.hid hal2
            clear hal2
            by_cases hfa : f < a
            · obtain ⟨A3, c3, hcr3, hor3, _, _⟩ := ownSS_rowval OS4.out (lowT_at (show f < k by omega))
              obtain ⟨n3, hl3⟩ : ∃ l, (lowL bss f).length = l := ⟨_, rfl⟩
              have hn3 : n3 ≤ 501 := by
                have h1 := (low_pw OK.out (show f < bss.length by rw [HY.out]; omega)).imp (S := fun a b : Int => a ≠ b) fun h => by omega
                have h2 : (lowL bss f).length ≤ ((List.range k).map fun (i : Nat) => (i : Int)).length := List.Nodup.length_le_of_subset h1 (fun z hz => by
                  obtain ⟨j, h3, h4⟩ := low_bd OK.out (show f < bss.length by rw [HY.out]; omega) hz
                  exact List.mem_map.2 ⟨j, by simp; omega, h3.symm⟩)
                simp at h2
                omega
              rw [hl3] at hcr3 hor3
              have HL3 := Lib.hid hl3
              have HRD3 := Lib.hid (own_rd hor3)
              have fI : (f : Int) < (a : Int) := by omega
              clear hl3 hor3
              go_wp2
              go_loop [10, 11, 55] (fun u v x => ∃ (t cnt : Nat) (last : Int), t ≤ n3 ∧ u = .int .i64 cnt ∧ v = .int .i64 last ∧ x = .int .i64 t ∧ (comT bss a f t).length = cnt ∧ (comT bss a f t).getLast?.getD 0 = last) (fun _ _ x => n3 - (intOf x).toNat)
              case atStart => exact ⟨0, 0, 0, Nat.zero_le _, rfl, rfl, rfl, by simp [comT], by simp [comT]⟩
              case round =>
                obtain ⟨t, cnt, last, ht, rfl, rfl, rfl, hcnt, hlast⟩ := hrel
                have hct : cnt ≤ t := by rw [← hcnt]; exact comT_len
                have HCNT := Lib.hid hcnt
                have HLAST := Lib.hid hlast
                clear hcnt hlast
                by_cases htl : t < n3
                · obtain ⟨b4, o4, y, rfl, hgy, hcy⟩ := HRD3.out.int (k := t) (by rw [HL3.out]; exact htl)
                  obtain ⟨j, rfl, hjf⟩ := low_bd OK.out (show f < bss.length by rw [HY.out]; omega) (List.mem_of_getElem? hgy)
                  have hjk : j < k := by omega
                  have hcs := own_cell OW3.out (seenL_at (l := lowL bss a) hjk)
                  have hsu := comT_succ (e := a) hgy
                  by_cases hin : (j : Int) ∈ lowL bss a
                  · rw [decide_eq_true hin] at hcs
                    rw [if_pos hin] at hsu
                    have HSU := Lib.hid hsu
                    clear hgy hsu hin
                    go_wp2
                    go_round
                    case rel => exact ⟨t + 1, cnt + 1, j, by omega, by go_num, rfl, by go_num, by rw [HSU.out, List.length_append, HCNT.out]; rfl, by rw [HSU.out]; simp⟩
                    case measure => simp [intOf]; omega
                  · rw [decide_eq_false hin] at hcs
                    rw [if_neg hin, List.append_nil] at hsu
                    have HSU := Lib.hid hsu
                    clear hgy hsu hin
                    go_wp2
                    go_round
                    case rel => exact ⟨t + 1, cnt, last, by omega, rfl, rfl, by go_num, by rw [HSU.out, HCNT.out], by rw [HSU.out, HLAST.out]⟩
                    case measure => simp [intOf]; omega
                · have hca := comT_all (bss := bss) (e := a) (f := f) (t := t) (by rw [HL3.out]; omega)
                  have h1 := HCNT.out
                  have h2 := HLAST.out
                  rw [hca] at h1 h2
                  by_cases hc0 : cnt = 0
                  · have HAL3 := Lib.hid (show ∀ f' : Nat, f' < f + 1 → MeetOk bss a f' from fun f' hf' => by
                      rcases Nat.lt_succ_iff_lt_or_eq.1 hf' with h | rfl
                      · exact HAL2.out f' h
                      · exact meet_nil (by omega))
                    have hnp : ¬ 0 < cnt := by omega
                    clear hca h1 h2 hc0
                    go_wp2
                    go_round
                    case rel => exact ⟨f + 1, by omega, by go_num, HAL3.out⟩
                    case measure => simp [intOf]; omega
                  · have hgl : (comL bss a f).getLast? = some last := by
                      cases hq : (comL bss a f).getLast? with
                      | none => rw [List.getLast?_eq_none_iff] at hq; rw [hq] at h1; simp at h1; omega
                      | some z => rw [hq] at h2; simp at h2; rw [h2]
                    obtain ⟨l, rfl, hlf⟩ := low_bd OK.out (show f < bss.length by rw [HY.out]; omega) (com_mem.1 (List.mem_of_getLast? hgl)).1
                    obtain ⟨A5, c5, hcr5, hor5, _, _⟩ := ownSS_rowval OS4.out (lowT_at (show l < k by omega))
                    obtain ⟨n4, hl4⟩ : ∃ n, (lowL bss l).length = n := ⟨_, rfl⟩
                    have hmc := meet_count OK.out (show f < bss.length by rw [HY.out]; omega) (show a < bss.length by rw [HY.out]; exact hak) hgl
                    rw [h1, hl4] at hmc
                    rw [hl4] at hcr5
                    have hp : 0 < cnt := by omega
                    have lI : (l : Int) < (k : Int) := by omega
                    by_cases heq : cnt = n4
                    · have hne : ((cnt : Int) != (n4 : Int)) = false := by rw [heq]; simp
                      have HAL3 := Lib.hid (show ∀ f' : Nat, f' < f + 1 → MeetOk bss a f' from fun f' hf' => by
                        rcases Nat.lt_succ_iff_lt_or_eq.1 hf' with h | rfl
                        · exact HAL2.out f' h
                        · exact hmc.2 heq)
                      clear hca h1 h2 hc0 hgl hl4 hmc heq hor5
                      go_wp2
                      go_round
                      case rel => exact ⟨f + 1, by omega, by go_num, HAL3.out⟩
                      case measure => simp [intOf]; omega
                    · have hne : ((cnt : Int) != (n4 : Int)) = true := by rw [bne_iff_ne]; omega
                      have hs := Lib.hid (pB_false (p := MeetsOk bss) fun h => heq (hmc.1 (h a f hfa (by rw [HY.out]; exact hak))))
                      clear hca h1 h2 hc0 hgl hl4 hmc heq hor5
                      go_wp2
                      go_ret
                      exact ⟨ret_bool hs.out.symm, BX4.out.below⟩
            · have HALL2 := Lib.hid (show ∀ e f : Nat, f < e → e < a + 1 → MeetOk bss e f from fun e f' hfe he => by
                rcases Nat.lt_succ_iff_lt_or_eq.1 he with h | rfl
                · exact HALL.out e f' hfe h
                · exact HAL2.out f' (by omega))
              go_wp2
              go_roundw
              case rel => exact ⟨a + 1, by omega, by go_num, HALL2.out, B4.out⟩
              case measure => simp [intOf]; omega
        · have hs := Lib.hid (pB_true (p := MeetsOk bss) fun e f hf he => HALL.out e f hf (by rw [HY.out] at he; omega))
          go_wp2
          go_ret
          exact ⟨ret_bool hs.out.symm, BX3.out.below⟩
end Go.Proofs.Ytnfngfpfihkclaa
