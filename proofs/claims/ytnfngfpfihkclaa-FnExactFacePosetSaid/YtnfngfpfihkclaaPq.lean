/- impl.Poset.opposite. -/
import Derived.Test.YtnfngfpfihkclaaPc
import Derived.Test.YtnfngfpfihkclaaPo
import Derived.Test.YtnfngfpfihkclaaRow
import Derived.Test.YtnfngfpfihkclaaPl
namespace Go.Proofs.Ytnfngfpfihkclaa
open Go.RowKit

/-- What holds while the opposite poset is made: the struct that came in, the one that is answered, the ranks, the lists. -/
structure OpI (w w2 w3 wr : World) (cs : Array Value) (hi N : Nat) (rs : List Int) (rows : List (List Int)) : Prop where
  k : Bp w wr cs 30
  z : Blk wr (w.heap.size + 1) #[.int .i64 0, .slice none 0 0, .slice none 0 0] 30
  r : wr.ownsRow w2.heap.size 2 1 (.slice (some ⟨w2.heap.size, 0, none⟩) N N) N (ints rs)
  s : OwnSS wr w3.heap.size hi 28 (some ⟨w3.heap.size, 0, none⟩) N N rows
  h1 : w.heap.size + 2 ≤ w2.heap.size
  h2 : w2.heap.size + 1 ≤ w3.heap.size
  hi : hi ≤ wr.heap.size
section
variable {w w2 w3 wr w4 : World} {cs : Array Value} {hi N : Nat} {rs : List Int} {rows : List (List Int)}
theorem OpI.h3 (h : OpI w w2 w3 wr cs hi N rs rows) : w3.heap.size < hi := (ownSS_lo h.s).2
theorem pin_of (w2 : World) (N : Nat) : InB (.slice (some ⟨w2.heap.size, 0, none⟩) N N) w2.heap.size (w2.heap.size + 1) := fun k hk => by
  simp [Value.ownBlock] at hk
  omega
theorem OpI.go (h : OpI w w2 w3 wr cs hi N rs rows) (hb : Below wr.heap.size wr w4) : OpI w w2 w3 w4 cs hi N rs rows :=
  ⟨h.k.go hb, h.z.go hb, own_below h.r hb (Nat.le_refl _), ownSS_below h.s hb (Nat.le_refl _), h.h1, h.h2, Nat.le_trans h.hi hb.size⟩
theorem OpI.rank (h : OpI w w2 w3 wr cs hi N rs rows) (g : Nat) (x : Int) : OpI w w2 w3 (wr.setCell ⟨w2.heap.size, g, none⟩ (.int .i64 x)) cs hi N (rs.set g x) rows := by
  have hst := h.r.stored g (.int .i64 x)
  have h1 := h.h1
  have h2 := h.h2
  refine ⟨h.k.tu (turns_set wr w2.heap.size g _) (by omega), h.z.set_ne (by omega) g _, ?_, h.s.turns2 g w2.heap.size _ (.inl (by omega)), h.h1, h.h2, by have := h.hi; simpa using this⟩
  have h3 := hst.1
  rwa [ints_set] at h3
theorem OpI.push {k c1 c4 : Nat} {A1 A4 : Option Addr} {xs : List Int} {x : Int} {o : Obj} (h : OpI w w2 w3 wr cs hi N rs rows) (hx : rows[k]? = some xs)
    (hrow : ∀ vals : List Value, wr.ownsRow w3.heap.size 28 1 (.slice (some ⟨w3.heap.size, 0, none⟩) N N) N vals → vals[k]? = some (.slice A1 xs.length c1))
    (own4 : w4.ownsRow w3.heap.size 2 1 (.slice A4 (xs.length + 1) c4) (xs.length + 1) (ints xs ++ [.int .i64 x])) (gr : (wr.alloc o).grownBy w4 (Value.slice A1 xs.length c1).ownBlock)
    (hat : (Value.slice A4 (xs.length + 1) c4).ownBlock = (Value.slice A1 xs.length c1).ownBlock ∨ (Value.slice A4 (xs.length + 1) c4).ownBlock = some (wr.heap.size + 1)) :
    (w4.frozen? ⟨w3.heap.size, k, none⟩ = false ∧ ∃ u, w4.cell? ⟨w3.heap.size, k, none⟩ = some u) ∧ OpI w w2 w3 (w4.setCell ⟨w3.heap.size, k, none⟩ (.slice A4 (xs.length + 1) c4)) cs w4.heap.size N rs (rows.set k (xs ++ [x])) := by
  obtain ⟨a1, a2, a3, a4⟩ := ownSS_pushrow (o := o) h.s (by decide) hx h.hi hrow own4 gr hat
  have h1 := h.h1
  have h2 := h.h2
  exact ⟨⟨a2, a3⟩, h.k.tu a4 (by omega), h.z.turns a4 (.inl (by omega)), a4.own h.r (pin_of w2 N) (.inl (by omega)), a1, h1, h2, by simp⟩
end

/-- The first g elements of a list, and zeros behind. -/
def rsAt (X : List Int) (n g : Nat) : List Int := X.take g ++ List.replicate (n - g) 0
theorem rsAt_zero (X : List Int) (n : Nat) : rsAt X n 0 = List.replicate n 0 := by simp [rsAt]
theorem rsAt_all {X : List Int} {n : Nat} (h : X.length = n) : rsAt X n n = X := by simp [rsAt, List.take_of_length_le (show X.length ≤ n by omega)]
theorem rsAt_set {X : List Int} {n g : Nat} {x : Int} (h : X.length = n) (hx : X[g]? = some x) : (rsAt X n g).set g x = rsAt X n (g + 1) := fill_step h hx

set_option maxHeartbeats 3200000 in
set_option maxRecDepth 100000 in
theorem iopp_any {R : Int} {A B : Option Addr} {N c M d : Nat} {xs : List Int} {bss : List (List Int)} (w : World) (hx : xs.length = N) (ha : Rd w A (ints xs)) (hy : bss.length = M) (hb : RdSS w B bss) (ok : OkPos R xs bss) :
    Calls Try.prog 73 #[.agg #[.int .i64 R, .slice A N c, .slice B M d]] w (RetP3 w R (opX R xs) (opB bss)) := by
  have hMN : M = N := by have := ok.ranks.len; omega
  subst hMN
  have hN5 := ok.ranks.n
  rw [hx] at hN5
  have hr1 := ok.ranks.r1
  have hr5 := ok.ranks.r5
  have HX := Lib.hid hx
  have HA := Lib.hid ha
  have HY := Lib.hid hy
  have HB := Lib.hid hb
  have OK := Lib.hid ok
  have BX0 := Lib.hid ((Bp.start w #[.int .i64 R, .slice A M c, .slice B M d] 30).al (.cells #[.int .i64 0, .slice none 0 0, .slice none 0 0] 30))
  have Z0 := Lib.hid (by have := Blk.new (w.alloc (.cells #[.int .i64 R, .slice A M c, .slice B M d] 30)) #[.int .i64 0, .slice none 0 0, .slice none 0 0] 30; simpa using this)
  have q0 := BX0.out.cell0
  have q1 := BX0.out.cell1
  have q2 := BX0.out.cell2
  have hmk1 := run_make_row' (P := Try.prog) 28 2 (.int .i64 0) 8 Try.underlying28 Try.info2 rfl .i64 .i64 M (by omega) (by omega)
  have hmk2 := run_make_row' (P := Try.prog) 24 28 (.slice none 0 0) 24 Try.underlying24 Try.infoS rfl .i64 .i64 M (by omega) (by omega)
  clear hx ha hy hb ok
  go_enter Try.func73, Try.ntmps73
  go_wp2_with fail
  refine (elems_bel _).mono ?_
  rintro e w1 ⟨rfl, bel⟩
  have BX1 := Lib.hid (BX0.out.go bel)
  have Z1 := Lib.hid (Z0.out.go bel)
  clear bel q0 q1 q2
  have q0 := BX1.out.cell0
  have q1 := BX1.out.cell1
  have q2 := BX1.out.cell2
  go_wp2_with fail
  obtain ⟨L, hL⟩ : ∃ L : Int, (M : Int) - 1 = L := ⟨_, rfl⟩
  rw [hL]
  have hL1 : L + 1 ≤ (M : Int) := by omega
  have hL2 : (M : Int) ≤ L + 1 := by omega
  clear hL
  refine (elems_bel _).mono ?_
  rintro e w2 ⟨rfl, bel⟩
  have BX2 := Lib.hid (BX1.out.go bel)
  have Z2 := Lib.hid (Z1.out.go bel)
  clear bel q0 q1 q2
  have BX3 := Lib.hid (BX2.out.al (.cells (madeCells #[.int .i64 0] M) 2))
  have Z3 := Lib.hid (Z2.out.go (below1 w2 (.cells (madeCells #[.int .i64 0] M) 2)))
  have R3 := Lib.hid (make_own w2 (.int .i64 0) M 2 (by unfold maxLen; omega))
  have q0 := BX3.out.cell0
  have q1 := BX3.out.cell1
  have q2 := BX3.out.cell2
  go_wp2_with fail
  refine (elems_bel _).mono ?_
  rintro e w3 ⟨rfl, bel⟩
  have hsz := bel.size
  have BX4 := Lib.hid (BX3.out.go bel)
  have Z4 := Lib.hid (Z3.out.go bel)
  have R4 := Lib.hid (own_below R3.out bel (Nat.le_refl _))
  have hlt2 := Z2.out.lt
  simp at hsz
  have OP0 := Lib.hid (show OpI w w2 w3 (w3.alloc (.cells (madeCells #[.slice none 0 0] M) 28)) #[.int .i64 R, .slice A M c, .slice B M d] (w3.heap.size + 1) M (rsAt (opX R xs) M 0) (opSt bss 0 [] 0) from
    ⟨BX4.out.al _, Z4.out.go (below1 _ _), by rw [rsAt_zero]; simpa using own_below R4.out (below1 _ _) (Nat.le_refl _), by rw [opSt_start, HY.out]; exact ownSS_make w3 M _ (by unfold maxLen; omega), by omega, by omega, by simp⟩)
  have HXL := Lib.hid (show (opX R xs).length = M by rw [opX_len, HX.out])
  clear bel q0 q1 q2 R3 R4 BX0 BX1 BX2 BX3 BX4 Z0 Z1 Z2 Z3 Z4 hlt2 hsz
  go_wp2
  clear hmk1 hmk2
  go_loopw [6] (fun v wr => ∃ (k g hi : Nat) (z : Int), v = .int .i64 z ∧ z + 1 = (k : Int) ∧ g + k = M ∧ OpI w w2 w3 wr #[.int .i64 R, .slice A M c, .slice B M d] hi M (rsAt (opX R xs) M g) (opSt bss g [] 0)) (fun v _ => (intOf v + 1).toNat)
  case atStart => exact ⟨M, 0, _, L, rfl, by omega, by omega, OP0.out⟩
  case round =>
    obtain ⟨k, g, hi, z, rfl, hz, hgk, op⟩ := hrel
    have OP := Lib.hid op
    have HGK := Lib.hid hgk
    clear op OP0
    by_cases hk : k = 0
    · obtain rfl : z = -1 := by omega
      have q0 := OP.out.k.cell0
      have z0 := OP.out.z.cell (i := 0) rfl
      have z1 := OP.out.z.cell (i := 1) rfl
      have z2 := OP.out.z.cell (i := 2) rfl
      have f0 := OP.out.z.free 0
      have f1 := OP.out.z.free 1
      have f2 := OP.out.z.free 2
      obtain rfl : g = M := by omega
      have HBL := Lib.hid (show (opB bss).length = g by rw [opB_len, HY.out])
      have HXA := Lib.hid (rsAt_all HXL.out)
      have HSA := Lib.hid (show opSt bss g [] 0 = opB bss from by have := opSt_all OK.out; rwa [HY.out] at this)
      clear hz hgk
      go_wp2
      have Z4 := ((OP.out.z.set 0 (.int .i64 R)).set 1 (.slice (some ⟨w2.heap.size, 0, none⟩) g g)).set 2 (.slice (some ⟨w3.heap.size, 0, none⟩) g g)
      have y0 := Z4.cell (i := 0) rfl
      have y1 := Z4.cell (i := 1) rfl
      have y2 := Z4.cell (i := 2) rfl
      have T4 : Turns (w.heap.size + 1) (w.heap.size + 2) wr _ := ((turns_set wr (w.heap.size + 1) 0 (.int .i64 R)).trans (turns_set _ (w.heap.size + 1) 1 (.slice (some ⟨w2.heap.size, 0, none⟩) g g))).trans (turns_set _ (w.heap.size + 1) 2 (.slice (some ⟨w3.heap.size, 0, none⟩) g g))
      have h1 := OP.out.h1
      have h2 := OP.out.h2
      have h3 := OP.out.hi
      have O5 := T4.own OP.out.r (pin_of w2 g) (.inr (by omega))
      have O6 := ownSS_turns OP.out.s T4 (.inr (by omega))
      rw [HXA.out] at O5
      rw [HSA.out] at O6
      refine bodyPost_ret (v := .agg #[.int .i64 R, .slice (some ⟨w2.heap.size, 0, none⟩) g g, .slice (some ⟨w3.heap.size, 0, none⟩) g g]) (by simp [results, Try.results73, go_sem, y0, y1, y2]) rfl ⟨some ⟨w2.heap.size, 0, none⟩, g, some ⟨w3.heap.size, 0, none⟩, g, w3.heap.size, ?_, by omega, by simp; have := OP.out.h3; omega, ?_, ?_, ?_, ?_⟩
      · rw [HXL.out, HBL.out]
      · rw [HXL.out]; exact own_base O5 (by omega)
      · rw [HXL.out]; exact inB_wide (pin_of w2 g) (by omega) (by omega)
      · rw [HBL.out]; exact ownSS_wide O6 (Nat.le_refl _) (by simpa using h3)
      · exact T4.below OP.out.k.below OP.out.k.below.size (by omega)
    · obtain ⟨e, rfl⟩ : ∃ e, k = e + 1 := ⟨k - 1, by omega⟩
      obtain rfl : z = (e : Int) := by omega
      obtain ⟨l, rfl⟩ := Int.eq_ofNat_of_zero_le (show 0 ≤ L by omega)
      have hle : e ≤ l := by omega
      have hlM : l < M := by omega
      have HLE := Lib.hid (show l = g + e by omega)
      obtain ⟨b1, o1, x, rfl, hgx, hcx⟩ := (HA.out.keep OP.out.k.below).int (k := e) (by rw [HX.out]; omega)
      have q0 := OP.out.k.cell0
      have q1 := OP.out.k.cell1
      have hxr := OK.out.ranks.rk e x hgx
      have hXg : (opX R xs)[g]? = some (R - 1 - x) := by
        have := opX_at (R := R) hgx
        have e1 : xs.length - 1 - e = g := by rw [HX.out]; omega
        rwa [e1] at this
      have HXG := Lib.hid hXg
      have hcg := own_cell OP.out.r (show (ints (rsAt (opX R xs) M g))[g]? = some (.int .i64 0) from fill_at (by omega) HXL.out)
      have hfr := OP.out.r.frozenAt g
      have j1 : IntKind.i64.wrap ((l : Int) - (e : Int)) = (g : Int) := (IntWalk.i64_in _ (by omega)).trans (by omega)
      have j2 : IntKind.i64.wrap (R - 1) = R - 1 := IntWalk.i64_in _ (by omega)
      have j3 : IntKind.i64.wrap (R - 1 - x) = R - 1 - x := IntWalk.i64_in _ (by omega)
      have eM : (e : Int) < (M : Int) := by omega
      have gM : (g : Int) < (M : Int) := by omega
      obtain ⟨wd, hwd⟩ : ∃ wd, wd = wr.drew := ⟨_, rfl⟩
      have OPd := Lib.hid (show OpI w w2 w3 wd #[.int .i64 R, .slice (some ⟨b1, o1, none⟩) M c, .slice B M d] hi M (rsAt (opX R xs) M g) (opSt bss g [] 0) from hwd ▸ OP.out.go (below_drewN (Below.refl _ _) 1))
      have OP2 := Lib.hid (by have h := OPd.out.rank g (R - 1 - x); rw [rsAt_set HXL.out HXG.out] at h; exact h)
      have HWD := Lib.hid hwd
      clear hgx hXg hz hgk hwd
      go_wp2
      go_still_tail 14, (by kernel_rfl)
      change wpList _ _ _ _ _ wr.drew
      rw [← HWD.out]
      clear hcg hfr q0 q1 hcx
      have hcg := own_cell OPd.out.r (show (ints (rsAt (opX R xs) M g))[g]? = some (.int .i64 0) from fill_at (by omega) HXL.out)
      have hfr := OPd.out.r.frozenAt g
      have q2 := OP2.out.k.cell2
      obtain ⟨b2, o2, A2, c2, bs, rfl, hgb, hcb0, hrb, hmb⟩ := HB.out.row (k := e) (by rw [HY.out]; omega)
      have hcb := cell_be hcb0 OP2.out.k.below
      clear hcb0
      obtain ⟨n2, hl2⟩ : ∃ l, bs.length = l := ⟨_, rfl⟩
      rw [hl2] at hcb hmb
      have HL2 := Lib.hid hl2
      have HGB := Lib.hid hgb
      have HRB := Lib.hid hrb
      have HSTL := Lib.hid (show opSt bss g [] 0 = opSt bss g bs 0 from opSt_zero)
      clear hl2 hgb hrb
      have OP3 := Lib.hid (by have h := OP2.out; rw [HSTL.out] at h; exact h)
      obtain ⟨wz, hwz⟩ : ∃ wz, wz = wd.setCell ⟨w2.heap.size, g, none⟩ (.int .i64 (R - 1 - x)) := ⟨_, rfl⟩
      rw [← hwz] at q2 hcb OP3
      have q2' := q2
      have hcb' := hcb
      rw [hwz] at q2' hcb'
      have HWZ := Lib.hid hwz
      clear hwz OP2
      go_wp2
      clear q2 q2' hcb hcb' hcg hfr
      go_loopw [43] (fun v wi => ∃ t hi2 : Nat, t ≤ n2 ∧ v = .int .i64 t ∧ OpI w w2 w3 wi #[.int .i64 R, .slice (some ⟨b1, o1, none⟩) M c, .slice (some ⟨b2, o2, none⟩) M d] hi2 M (rsAt (opX R xs) M (g + 1)) (opSt bss g bs t)) (fun v _ => n2 - (intOf v).toNat)
      case atStart => exact ⟨0, hi, Nat.zero_le _, rfl, HWZ.out ▸ OP3.out⟩
      case round =>
        obtain ⟨t, hi2, ht, rfl, op⟩ := hrel
        have OQ := Lib.hid op
        clear op OP OPd OP3
        by_cases htl : t < n2
        · obtain ⟨b4, o4, y, rfl, hgy, hcy⟩ := (HRB.out.keep OQ.out.k.below).int (k := t) (by rw [HL2.out]; exact htl)
          obtain ⟨m, _, _, rfl, hme, _, _, _⟩ := OK.out.el HGB.out (List.mem_of_getElem? hgy)
          have e1 : bss.length - 1 - m = l - m := by have := HY.out; have := HLE.out; have := HGK.out; omega
          have hset := opSt_set (g := g) (b := bs) (t := t) (show m < bss.length by have := HY.out; omega) hgy (inc_fresh (OK.out.rows e bs HGB.out).inc hgy)
          rw [e1] at hset
          obtain ⟨r, hr⟩ : ∃ r, opTo bss (l - m) g = r := ⟨_, rfl⟩
          have hrl : r.length ≤ g := by rw [← hr]; exact opTo_len
          rw [hr] at hset
          obtain ⟨A4, c4, hcr, hor, hir, hrow⟩ := ownSS_rowval OQ.out.s hset.1
          obtain ⟨n4, hn4⟩ : ∃ n, r.length = n := ⟨_, rfl⟩
          have hn4b : n4 ≤ 500 := by have := HGK.out; omega
          rw [hn4] at hcr
          have HN4 := Lib.hid hn4
          have OR := Lib.hid (hn4 ▸ hor)
          have HROW := Lib.hid hrow
          have HS1 := Lib.hid hset.1
          have HS2 := Lib.hid hset.2
          have hmM : l - m < M := by omega
          have hml : m ≤ l := by omega
          have hw3 : w3.heap.size ≤ wr.heap.size := by have := OQ.out.h3; have := OQ.out.hi; omega
          have HGV := Lib.hid (show (l : Int) - (e : Int) = (g : Int) by have := HLE.out; omega)
          clear hset hr hor hir hrow hn4 hgy e1
          go_wp2_with (at_builtin; refine wpList_push_at _ rfl _ _ 28 2 rfl Try.underlying28 (.int .i64 0) 8 Try.info2 rfl w3.heap.size _ n4 _ rfl OR.out _ rfl rfl (by omega) (by omega) hw3 ?_)
          intro A5 c5 w4 own4 gr4 hat4
          obtain ⟨hfc, op5⟩ := OQ.out.push HS1.out HROW.out (by rw [HN4.out]; exact own4) (by rw [HN4.out]; exact gr4) (by rw [HN4.out]; exact hat4)
          rw [HN4.out, HS2.out] at op5
          obtain ⟨hf5, u5, hu5⟩ := hfc
          have OQ5 := Lib.hid op5
          clear own4 gr4 hat4 op5 hcr
          go_wp2
          go_roundw
          case rel => exact ⟨t + 1, _, by omega, by go_num, OQ5.out⟩
          case measure => simp [intOf]; omega
        · have HST := Lib.hid (show opSt bss g bs t = opSt bss (g + 1) [] 0 from by
            have e1 : bss.length - 1 - g = e := by have := HY.out; have := HLE.out; have := HGK.out; omega
            exact opSt_next (by rw [e1]; exact HGB.out) (by rw [HL2.out]; omega))
          have OQ2 := Lib.hid (by have h := OQ.out; rw [HST.out] at h; exact h)
          have HG2 := Lib.hid (show g + 1 + e = M by have := HGK.out; omega)
          clear OQ
          go_wp2
          go_roundw
          case rel => exact ⟨e, g + 1, hi2, (e : Int) - 1, rfl, by omega, HG2.out, OQ2.out⟩
          case measure => simp [intOf]
end Go.Proofs.Ytnfngfpfihkclaa
