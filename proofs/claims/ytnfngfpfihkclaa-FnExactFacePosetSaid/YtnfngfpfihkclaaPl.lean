/- Posets as arguments of the laws: their sizes, copies, comparisons, marks. -/
import Derived.Test.YtnfngfpfihkclaaPc
import Derived.Test.YtnfngfpfihkclaaBlk
namespace Go.Proofs.Ytnfngfpfihkclaa
open Go.RowKit

set_option maxHeartbeats 800000 in
theorem szl_any {A : Option Addr} {c n : Nat} {xss : List (List Int)} (left : Int) (w : World) (hl0 : 0 ≤ left) (hl1 : left ≤ 1048576) (hx : xss.length = n) (ha : RdSS w A xss) (hn : n ≤ 9223372036854775807) :
    Calls Try.prog 79 #[.slice A n c, .int .i64 left] w (SzOk 1048576 xss w) := by
  have HX := Lib.hid hx
  have HA := Lib.hid ha
  clear hx ha
  by_cases hl : left - n < 0
  · go_enter Try.func79, Try.ntmps79
    go_wp2
    go_ret
    exact ⟨-1, rfl, by omega, by omega, by omega, rfl⟩
  go_enter Try.func79, Try.ntmps79
  go_wp2
  go_loop [1, 5] (fun q i => ∃ (k : Nat) (r : Int), k ≤ n ∧ i = .int .i64 k ∧ q = .int .i64 r ∧ 0 ≤ r ∧ r ≤ 1048576 ∧ ∀ xs ∈ xss.take k, (xs.length : Int) ≤ 1048576) (fun _ i => n - (intOf i).toNat)
  case atStart => exact ⟨0, _, Nat.zero_le _, rfl, rfl, by omega, by omega, by simp⟩
  case round =>
    obtain ⟨k, r, hk, rfl, rfl, h0, h1, hall⟩ := hrel
    have HALL := Lib.hid hall
    clear hall
    by_cases hlt : k < n
    · obtain ⟨b, o, A', c', xs, rfl, hg, hc, hr, hm⟩ := HA.out.row (k := k) (by rw [HX.out]; exact hlt)
      have HG := Lib.hid hg
      clear hg hr
      go_wp2_with fail
      refine (sz1_any r w h0 h1 hm).mono ?_
      rintro e w' ⟨r', rfl, g0, g1, g2, rfl⟩
      by_cases hneg : r' < 0
      · clear g2
        go_wp2
        go_ret
        exact ⟨-1, rfl, by omega, by omega, by omega, rfl⟩
      · have G2 := Lib.hid (g2 (by omega))
        clear g2
        go_wp2
        go_round
        case rel =>
          refine ⟨k + 1, r', by omega, by go_num, rfl, by omega, by omega, fun ys hy => ?_⟩
          rw [List.take_add_one, HG.out] at hy
          rcases List.mem_append.1 hy with h | h
          · exact HALL.out ys h
          · simp at h
            subst h
            have := G2.out
            omega
        case measure => simp [intOf]; omega
    · go_wp2
      go_ret
      refine ⟨r, rfl, by omega, by omega, fun _ => ⟨by rw [HX.out]; omega, fun xs hxs => HALL.out xs ?_⟩, rfl⟩
      rwa [List.take_of_length_le (by rw [HX.out]; omega)]

def SzP (N M : Nat) (bss : List (List Int)) (w : World) (e : Ending) (w' : World) : Prop :=
  ∃ r : Int, e = .returned (.int .i64 r) ∧ -1 ≤ r ∧ r ≤ 1048576 ∧ (0 ≤ r → N ≤ 1048576 ∧ M ≤ 1048576 ∧ ∀ xs ∈ bss, (xs.length : Int) ≤ 1048576) ∧ Below w.heap.size w w'
theorem szP_any {R : Int} {A B : Option Addr} {N c M d : Nat} {bss : List (List Int)} (w : World) (hy : bss.length = M) (hb : RdSS w B bss) (hN : N ≤ 9223372036854775807) (hM : M ≤ 9223372036854775807) :
    Calls Try.prog 38 #[.agg #[.int .i64 R, .slice A N c, .slice B M d], .int .i64 1048576] w (SzP N M bss w) := by
  have HY := Lib.hid hy
  have HB := Lib.hid hb
  clear hy hb
  go_enter Try.func38, Try.ntmps38
  go_wp2_with fail
  refine (sz1_any 1048576 _ (by omega) (by omega) hN).mono ?_
  rintro e w1 ⟨r, rfl, h0, h1, h2, rfl⟩
  have H2 := Lib.hid h2
  clear h2
  by_cases hneg : r < 0
  · go_wp2
    go_ret
    exact ⟨-1, rfl, by omega, by omega, by omega, below1 _ _⟩
  · go_wp2_with fail
    refine (szl_any r _ (by omega) h1 HY.out (HB.out.al _) hM).mono ?_
    rintro e w2 ⟨r2, rfl, g0, g1, g2, rfl⟩
    have G2 := Lib.hid g2
    clear g2
    by_cases hneg2 : r2 < 0
    · go_wp2
      go_ret
      exact ⟨-1, rfl, by omega, by omega, by omega, below1 _ _⟩
    · go_wp2
      go_ret
      exact ⟨r2, rfl, by omega, by omega, fun _ => ⟨by have := H2.out (by omega); omega, by have := (G2.out (by omega)).1; rw [HY.out] at this; omega, (G2.out (by omega)).2⟩, below1 _ _⟩

/-- What a call gives back that makes a poset whose ranks lie before its lists. -/
def RetP3 (w : World) (R : Int) (xs : List Int) (bss : List (List Int)) (e : Ending) (w' : World) : Prop :=
  ∃ (A' : Option Addr) (c' : Nat) (B' : Option Addr) (d' mid : Nat), e = .returned (.agg #[.int .i64 R, .slice A' xs.length c', .slice B' bss.length d']) ∧ w.heap.size ≤ mid ∧ mid ≤ w'.heap.size ∧
    w'.ownsRow w.heap.size 2 1 (.slice A' xs.length c') xs.length (ints xs) ∧ InB (.slice A' xs.length c') w.heap.size mid ∧ OwnSS w' mid w'.heap.size 28 B' bss.length d' bss ∧ Below w.heap.size w w'

set_option maxHeartbeats 800000 in
theorem toP_any {R : Int} {A B : Option Addr} {N c M d : Nat} {xs : List Int} {bss : List (List Int)} (w : World) (hx : xs.length = N) (ha : Rd w A (ints xs)) (hy : bss.length = M) (hb : RdSS w B bss) (hN : N ≤ 1048576) (hM : M ≤ 1048576) (hr : ∀ xs ∈ bss, (xs.length : Int) ≤ 1048576) :
    Calls Try.prog 40 #[.agg #[.int .i64 R, .slice A N c, .slice B M d]] w (RetP3 w R xs bss) := by
  subst hx
  subst hy
  have HA := Lib.hid ha
  have HB := Lib.hid hb
  have HR := Lib.hid hr
  clear ha hb hr
  go_enter Try.func40, Try.ntmps40
  go_wp2_with fail
  refine (to_any _ rfl (HA.out.keep (below3 _ _ _ _)) hN).mono ?_
  rintro e w1 ⟨A', c', rfl, own, bel⟩
  have hsz := bel.size
  simp at hsz
  have K0 := Lib.hid (((Bp.start w #[.int .i64 R, .slice A xs.length c, .slice B bss.length d] 56).al (.cells #[.int .i64 0, .slice none 0 0, .slice none 0 0] 30)).al (.cells #[.int .i64 R, .slice none 0 0, .slice none 0 0] 30))
  have K1 := Lib.hid (K0.out.go bel)
  have Z1 := Lib.hid (((Blk.new (w.alloc (.cells #[.int .i64 R, .slice A xs.length c, .slice B bss.length d] 56)) #[.int .i64 0, .slice none 0 0, .slice none 0 0] 30).go (below1 _ (.cells #[.int .i64 R, .slice none 0 0, .slice none 0 0] 30))).go bel)
  have Y1 := Lib.hid ((Blk.new ((w.alloc (.cells #[.int .i64 R, .slice A xs.length c, .slice B bss.length d] 56)).alloc (.cells #[.int .i64 0, .slice none 0 0, .slice none 0 0] 30)) #[.int .i64 R, .slice none 0 0, .slice none 0 0] 30).go bel)
  simp at Z1 Y1
  have PIN := Lib.hid (own_in own)
  have OWN := Lib.hid own
  clear own bel K0
  have k0 := K1.out.cell0
  have k1 := K1.out.cell1
  have k2 := K1.out.cell2
  have y1 := Y1.out.cell (i := 1) rfl
  have f1 := Y1.out.free 1
  go_wp2_with fail
  have Y2 := Lib.hid (Y1.out.set 1 (.slice A' xs.length c'))
  have Z2 := Lib.hid (Z1.out.set_ne (k := w.heap.size + 1 + 1) (by omega) 1 (.slice A' xs.length c'))
  have K2 := Lib.hid (K1.out.tu (turns_set w1 (w.heap.size + 1 + 1) 1 (.slice A' xs.length c')) (by omega))
  have O1 := Lib.hid (own_turns2 OWN.out PIN.out (w.heap.size + 1 + 1) 1 (.slice A' xs.length c') (.inl (by simp)))
  refine (toSS_any _ rfl (HB.out.keep K2.out.below) hM HR.out).mono ?_
  rintro e w2 ⟨B', d', rfl, own2, bel2⟩
  have hsz2 := bel2.size
  simp at hsz2
  have O2 := Lib.hid own2
  have O3 := Lib.hid (own_below O1.out bel2 (Nat.le_refl _))
  have K3 := Lib.hid (K2.out.go bel2)
  have Z3 := Lib.hid (Z2.out.go bel2)
  have Y3 := Lib.hid (Y2.out.go bel2)
  clear own2 bel2 k0 k1 k2 y1 f1 K1 K2 Z1 Z2 Y1 Y2 O1 OWN
  have y0 := Y3.out.cell (i := 0) rfl
  have y1 := Y3.out.cell (i := 1) rfl
  have y2 := Y3.out.cell (i := 2) rfl
  have f2 := Y3.out.free 2
  have z0 := Z3.out.cell (i := 0) rfl
  have z1 := Z3.out.cell (i := 1) rfl
  have z2 := Z3.out.cell (i := 2) rfl
  have g0 := Z3.out.free 0
  have g1 := Z3.out.free 1
  have g2 := Z3.out.free 2
  go_wp2_with fail
  clear y0 y1 y2 f2 z0 z1 z2 g0 g1 g2
  have Z4 := (((Z3.out.set_ne (k := w.heap.size + 1 + 1) (by omega) 2 (.slice B' bss.length d')).set 0 (.int .i64 R)).set 1 (.slice A' xs.length c')).set 2 (.slice B' bss.length d')
  have z0 := Z4.cell (i := 0) rfl
  have z1 := Z4.cell (i := 1) rfl
  have z2 := Z4.cell (i := 2) rfl
  have T4 : Turns (w.heap.size + 1) (w.heap.size + 3) w2 _ := (((turns_set w2 (w.heap.size + 1 + 1) 2 (.slice B' bss.length d')).wide (by omega) (by omega)).trans ((turns_set _ (w.heap.size + 1) 0 (.int .i64 R)).wide (by omega) (by omega))).trans (((turns_set _ (w.heap.size + 1) 1 (.slice A' xs.length c')).wide (by omega) (by omega)).trans ((turns_set _ (w.heap.size + 1) 2 (.slice B' bss.length d')).wide (by omega) (by omega)))
  have P2 := PIN.out
  simp at P2
  have O5 := T4.own O3.out P2 (.inr (by omega))
  have O6 := ownSS_turns O2.out T4 (.inr (by simp; omega))
  refine bodyPost_ret (v := .agg #[.int .i64 R, .slice A' xs.length c', .slice B' bss.length d']) (by simp [results, Try.results40, go_sem, z0, z1, z2]) rfl ⟨A', c', B', d', w1.heap.size, rfl, by omega, by simp; omega, own_base O5 (by simp; omega), inB_wide P2 (by omega) (by omega), ?_, ?_⟩
  · exact ownSS_wide O6 (by simp) (by simp)
  · exact T4.below K3.out.below K3.out.below.size (by omega)

theorem eqP_same {R : Int} {A B A2 B2 : Option Addr} {N c M d N2 c2 M2 d2 : Nat} {xs : List Int} {bss : List (List Int)} (w : World) (hx : xs.length = N) (hx2 : xs.length = N2) (ha : Rd w A (ints xs)) (ha2 : Rd w A2 (ints xs)) (hy : bss.length = M) (hy2 : bss.length = M2) (hb : RdSS w B bss) (hb2 : RdSS w B2 bss) (hN : N ≤ 9223372036854775807) (hM : M ≤ 9223372036854775807) :
    Calls Try.prog 33 #[.agg #[.int .i64 R, .slice A N c, .slice B M d], .agg #[.int .i64 R, .slice A2 N2 c2, .slice B2 M2 d2]] w fun e w' => e = .returned (.bool true) ∧ Below w.heap.size w w' := by
  have HX := Lib.hid hx
  have HX2 := Lib.hid hx2
  have HA := Lib.hid ha
  have HA2 := Lib.hid ha2
  have HY := Lib.hid hy
  have HY2 := Lib.hid hy2
  have HB := Lib.hid hb
  have HB2 := Lib.hid hb2
  have hne : (R != R) = false := by simp
  clear hx hx2 ha ha2 hy hy2 hb hb2
  go_enter Try.func33, Try.ntmps33
  go_wp2_with fail
  refine (eq_same _ HX.out HX2.out (HA.out.keep (below2 _ _ _)) (HA2.out.keep (below2 _ _ _)) hN).mono ?_
  rintro e w1 ⟨rfl, bel⟩
  have B1 := Lib.hid ((below2 w _ _).trans (bel.mono (below2 w _ _).size))
  have k1 := cell_be (cell_al (Bp.start w #[.int .i64 R, .slice A N c, .slice B M d] 30).cell2 (.cells #[.int .i64 R, .slice A2 N2 c2, .slice B2 M2 d2] 30)) bel
  have k2 := cell_be (Bp.start (w.alloc (.cells #[.int .i64 R, .slice A N c, .slice B M d] 30)) #[.int .i64 R, .slice A2 N2 c2, .slice B2 M2 d2] 30).cell2 bel
  simp at k2
  clear bel
  go_wp2_with fail
  refine (eqSS_same _ HY.out HY2.out (HB.out.keep B1.out) (HB2.out.keep B1.out) hM).mono ?_
  rintro e w2 ⟨rfl, bel⟩
  have B2 := Lib.hid (B1.out.trans (bel.mono B1.out.size))
  clear bel k1 k2
  go_wp2
  go_ret
  exact ⟨rfl, B2.out⟩

set_option maxHeartbeats 800000 in
theorem markP_any {R : Int} {A B : Option Addr} {N c M d lo mid hi : Nat} {xs : List Int} {bss : List (List Int)} (k0 : Int) (w : World) (ho : w.ownsRow lo 2 1 (.slice A N c) N (ints xs)) (hp : InB (.slice A N c) lo mid) (hb : OwnSS w mid hi 28 B M d bss) (hlm : lo ≤ mid) (hmh : mid ≤ hi) (hhi : hi ≤ w.heap.size)
    (hN : N ≤ 1048576) (hM : M ≤ 1048576) (hr : ∀ xs ∈ bss, (xs.length : Int) ≤ 1048576) (h0 : 0 ≤ k0) (h1 : k0 ≤ 1000000000) :
    Calls Try.prog 36 #[.agg #[.int .i64 R, .slice A N c, .slice B M d], .int .i64 k0] w fun e w' => e = .returned (.int .i64 (k0 + N + totalL bss)) ∧ w'.ownsRow lo 2 1 (.slice A N c) N (ints (marks k0 N)) ∧ OwnSS w' mid hi 28 B M d (marksSS (k0 + N) bss) ∧ Turns lo hi w w' := by
  have HO := Lib.hid (own_below ho (below1 w (.cells #[.int .i64 R, .slice A N c, .slice B M d] 30)) (Nat.le_refl _))
  have HB := Lib.hid (ownSS_below hb (below1 w (.cells #[.int .i64 R, .slice A N c, .slice B M d] 30)) (Nat.le_refl _))
  have HP := Lib.hid hp
  have HR := Lib.hid hr
  have BX0 := Lib.hid (Blk.new w #[.int .i64 R, .slice A N c, .slice B M d] 30)
  have T0 := Lib.hid (show Turns lo hi w (w.alloc (.cells #[.int .i64 R, .slice A N c, .slice B M d] 30)) from Turns.of_below (below1 _ _) (Nat.le_refl _))
  clear ho hb hp hr
  go_enter Try.func36, Try.ntmps36
  go_wp2_with fail
  refine (mark_any k0 _ HO.out hN h0 (by omega)).mono ?_
  rintro e w1 ⟨rfl, own, gr⟩
  have tu := Turns.of_grown gr HP.out
  have T1 := Lib.hid (T0.out.trans (tu.wide (Nat.le_refl _) hmh))
  have BX1 := Lib.hid (BX0.out.turns tu (.inr (by omega)))
  have O1 := Lib.hid own
  have S1 := Lib.hid (ownSS_turns HB.out tu (.inr (Nat.le_refl _)))
  clear own gr tu
  have k2 := BX1.out.cell (i := 2) rfl
  go_wp2_with fail
  refine (markSS_any (k0 + N) _ S1.out (by decide) hM HR.out (by omega) (by omega)).mono ?_
  rintro e w2 ⟨rfl, own, tu⟩
  have T2 := Lib.hid (T1.out.trans (tu.wide hlm (Nat.le_refl _)))
  have O2 := Lib.hid (tu.own O1.out HP.out (.inl (Nat.le_refl _)))
  have S2 := Lib.hid own
  clear own tu k2
  go_wp2
  go_ret
  exact ⟨rfl, O2.out, S2.out, T2.out⟩
theorem heldP_any {R : Int} {A B : Option Addr} {N c M d : Nat} {bss : List (List Int)} (k0 : Int) (w : World) (ha : Rd w A (ints (marks k0 N))) (hy : bss.length = M) (hb : RdSS w B (marksSS (k0 + N) bss)) (hN : N ≤ 1048576) (hM : M ≤ 1048576) (hr : ∀ xs ∈ bss, (xs.length : Int) ≤ 1048576) (h0 : 0 ≤ k0) (h1 : k0 ≤ 1000000000) :
    Calls Try.prog 37 #[.agg #[.int .i64 R, .slice A N c, .slice B M d], .int .i64 k0] w fun e w' => e = .returned (.int .i64 (k0 + N + totalL bss)) ∧ Below w.heap.size w w' := by
  have HY := Lib.hid hy
  have HA := Lib.hid (ha.keep (below1 w (.cells #[.int .i64 R, .slice A N c, .slice B M d] 30)))
  have HB := Lib.hid (hb.al (.cells #[.int .i64 R, .slice A N c, .slice B M d] 30))
  have HR := Lib.hid hr
  have ht := totalL_le hr bss.length
  rw [List.take_length, hy] at ht
  have hz : 0 ≤ k0 + N + (totalL bss : Int) := by omega
  have hz2 : k0 + N + (totalL bss : Int) ≤ 3000000000000 := by omega
  have hz3 : 0 ≤ k0 + (N : Int) := by omega
  clear hy ha hb hr
  go_enter Try.func37, Try.ntmps37
  go_wp2_with fail
  refine (held_any k0 _ HA.out hN h0 (by omega)).mono ?_
  rintro e' w' ⟨rfl, rfl⟩
  go_wp2_with fail
  refine (heldSS_any (k0 + N) _ HY.out HB.out hM HR.out hz3 (by omega)).mono ?_
  rintro e' w' ⟨rfl, rfl⟩
  go_wp2
  go_ret
  exact ⟨rfl, below1 w _⟩

theorem s7_go {w W W' : World} {b p : Nat} {u0 u1 u2 v0 v1 v2 : Value}
    (h : Below w.heap.size w W ∧ W.cell? ⟨b, 0, none⟩ = some u0 ∧ W.cell? ⟨b, 1, none⟩ = some u1 ∧ W.cell? ⟨b, 2, none⟩ = some u2 ∧ W.cell? ⟨p, 0, none⟩ = some v0 ∧ W.cell? ⟨p, 1, none⟩ = some v1 ∧ W.cell? ⟨p, 2, none⟩ = some v2) (hb : Below W.heap.size W W') :
    Below w.heap.size w W' ∧ W'.cell? ⟨b, 0, none⟩ = some u0 ∧ W'.cell? ⟨b, 1, none⟩ = some u1 ∧ W'.cell? ⟨b, 2, none⟩ = some u2 ∧ W'.cell? ⟨p, 0, none⟩ = some v0 ∧ W'.cell? ⟨p, 1, none⟩ = some v1 ∧ W'.cell? ⟨p, 2, none⟩ = some v2 :=
  ⟨h.1.trans (hb.mono h.1.size), cell_be h.2.1 hb, cell_be h.2.2.1 hb, cell_be h.2.2.2.1 hb, cell_be h.2.2.2.2.1 hb, cell_be h.2.2.2.2.2.1 hb, cell_be h.2.2.2.2.2.2 hb⟩
theorem s7_rd {w W : World} {A : Option Addr} {vs : List Value} {b p : Nat} {u0 u1 u2 v0 v1 v2 : Value} (ha : Rd w A vs)
    (h : Below w.heap.size w W ∧ W.cell? ⟨b, 0, none⟩ = some u0 ∧ W.cell? ⟨b, 1, none⟩ = some u1 ∧ W.cell? ⟨b, 2, none⟩ = some u2 ∧ W.cell? ⟨p, 0, none⟩ = some v0 ∧ W.cell? ⟨p, 1, none⟩ = some v1 ∧ W.cell? ⟨p, 2, none⟩ = some v2) : Rd W A vs := ha.keep h.1
theorem s7_rs {w W : World} {A : Option Addr} {vs : List (List Int)} {b p : Nat} {u0 u1 u2 v0 v1 v2 : Value} (ha : RdSS w A vs)
    (h : Below w.heap.size w W ∧ W.cell? ⟨b, 0, none⟩ = some u0 ∧ W.cell? ⟨b, 1, none⟩ = some u1 ∧ W.cell? ⟨b, 2, none⟩ = some u2 ∧ W.cell? ⟨p, 0, none⟩ = some v0 ∧ W.cell? ⟨p, 1, none⟩ = some v1 ∧ W.cell? ⟨p, 2, none⟩ = some v2) : RdSS W A vs := ha.keep h.1
/-- What a call gives back that makes a poset and a code: the ranks lie before the lists. -/
def RetPC (w : World) (R : Int) (xs : List Int) (bss : List (List Int)) (C : Int) (e : Ending) (w' : World) : Prop :=
  ∃ (A' : Option Addr) (c' : Nat) (B' : Option Addr) (d' mid : Nat), e = .returned (.tuple #[.agg #[.int .i64 R, .slice A' xs.length c', .slice B' bss.length d'], .int .i64 C]) ∧ w.heap.size ≤ mid ∧ mid ≤ w'.heap.size ∧
    w'.ownsRow w.heap.size 2 1 (.slice A' xs.length c') xs.length (ints xs) ∧ InB (.slice A' xs.length c') w.heap.size mid ∧ OwnSS w' mid w'.heap.size 28 B' bss.length d' bss ∧ Below w.heap.size w w'
/-- The same, wherever its parts lie. -/
def RetPU (w : World) (R : Int) (xs : List Int) (bss : List (List Int)) (C : Int) (e : Ending) (w' : World) : Prop :=
  ∃ (A' : Option Addr) (c' : Nat) (B' : Option Addr) (d' : Nat), e = .returned (.tuple #[.agg #[.int .i64 R, .slice A' xs.length c', .slice B' bss.length d'], .int .i64 C]) ∧
    w'.ownsRow w.heap.size 2 1 (.slice A' xs.length c') xs.length (ints xs) ∧ OwnSS w' w.heap.size w'.heap.size 28 B' bss.length d' bss ∧ Below w.heap.size w w'
end Go.Proofs.Ytnfngfpfihkclaa
