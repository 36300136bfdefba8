/- spec.OppositePoset, impl.OppositePoset. -/
import Derived.Test.YtnfngfpfihkclaaPr
import Derived.Deep.AppendLies
import Derived.Deep.RegionLaw
import Derived.Deep.CutRange
namespace Go.Proofs.Ytnfngfpfihkclaa
open Go.RowKit

open Classical in
noncomputable def opPR (R : Int) (xs : List Int) (bss : List (List Int)) : Int := if posB R xs bss = true then R else 0
open Classical in
noncomputable def opPX (R : Int) (xs : List Int) (bss : List (List Int)) : List Int := if posB R xs bss = true then opX R xs else []
open Classical in
noncomputable def opPB (R : Int) (xs : List Int) (bss : List (List Int)) : List (List Int) := if posB R xs bss = true then opB bss else []
noncomputable def opPC (R : Int) (xs : List Int) (bss : List (List Int)) : Int := if posB R xs bss = true then 0 else 1

set_option maxHeartbeats 1600000 in
theorem iOppositePoset_any {R : Int} {A B : Option Addr} {N c M d : Nat} {xs : List Int} {bss : List (List Int)} (w : World) (hx : xs.length = N) (ha : Rd w A (ints xs)) (hy : bss.length = M) (hb : RdSS w B bss) (hN : N ≤ 1048576) (hM : M ≤ 1048576) (hr : ∀ xs ∈ bss, (xs.length : Int) ≤ 1048576) :
    Calls Try.prog 26 #[.agg #[.int .i64 R, .slice A N c, .slice B M d]] w (RetPC w (opPR R xs bss) (opPX R xs bss) (opPB R xs bss) (opPC R xs bss)) := by
  have HX := Lib.hid hx
  have HA := Lib.hid ha
  have HY := Lib.hid hy
  have HB := Lib.hid hb
  have HR := Lib.hid hr
  have BX0 := Lib.hid ((Bp.start w #[.int .i64 R, .slice A N c, .slice B M d] 30).al (.cells #[.int .i64 0, .slice none 0 0, .slice none 0 0] 30))
  have Z0 := Lib.hid (by have := Blk.new (w.alloc (.cells #[.int .i64 R, .slice A N c, .slice B M d] 30)) #[.int .i64 0, .slice none 0 0, .slice none 0 0] 30; simpa using this)
  have q0 := BX0.out.cell0
  have q1 := BX0.out.cell1
  have q2 := BX0.out.cell2
  cases ho : posB R xs bss
  · have h1 : opPR R xs bss = 0 := by simp [opPR, ho]
    have h2 : opPX R xs bss = [] := by simp [opPX, ho]
    have h3 : opPB R xs bss = [] := by simp [opPB, ho]
    have h4 : opPC R xs bss = 1 := by simp [opPC, ho]
    rw [h1, h2, h3, h4]
    have HO := Lib.hid ho
    clear hx ha hy hb hr ho h1 h2 h3 h4
    go_enter Try.func26, Try.ntmps26
    go_wp2_with fail
    refine (iPos_any _ HX.out (HA.out.keep BX0.out.below) HY.out (HB.out.keep BX0.out.below) hN hM HR.out).mono ?_
    rintro e w1 ⟨rfl, bel⟩
    rw [HO.out]
    have BX1 := Lib.hid (BX0.out.go bel)
    have Z1 := Lib.hid (Z0.out.go bel)
    clear bel q0 q1 q2
    have z0 := Z1.out.cell (i := 0) rfl
    have z1 := Z1.out.cell (i := 1) rfl
    have z2 := Z1.out.cell (i := 2) rfl
    have f0 := Z1.out.free 0
    have f1 := Z1.out.free 1
    have f2 := Z1.out.free 2
    go_wp2
    have Z4 := ((Z1.out.set 0 (.int .i64 0)).set 1 (.slice none 0 0)).set 2 (.slice none 0 0)
    have y0 := Z4.cell (i := 0) rfl
    have y1 := Z4.cell (i := 1) rfl
    have y2 := Z4.cell (i := 2) rfl
    have T4 : Turns (w.heap.size + 1) (w.heap.size + 2) w1 _ := ((turns_set w1 (w.heap.size + 1) 0 (.int .i64 0)).trans (turns_set _ (w.heap.size + 1) 1 (.slice none 0 0))).trans (turns_set _ (w.heap.size + 1) 2 (.slice none 0 0))
    refine bodyPost_ret (v := .tuple #[.agg #[.int .i64 0, .slice none 0 0, .slice none 0 0], .int .i64 1]) (by simp [results, Try.results26, go_sem, y0, y1, y2]) rfl ⟨none, 0, none, 0, w.heap.size, rfl, Nat.le_refl _, by have := BX1.out.size; simp; omega, World.ownsRow_nil _ _ _ _, fun k hk => by simp [Value.ownBlock] at hk, ownSS_nil _ _ _ _, T4.below BX1.out.below BX1.out.below.size (by omega)⟩
  · have ok := pB_iff.1 ho
    have h1 : opPR R xs bss = R := by simp [opPR, ho]
    have h2 : opPX R xs bss = opX R xs := by simp [opPX, ho]
    have h3 : opPB R xs bss = opB bss := by simp [opPB, ho]
    have h4 : opPC R xs bss = 0 := by simp [opPC, ho]
    rw [h1, h2, h3, h4]
    have HO := Lib.hid ho
    have OK := Lib.hid ok
    clear hx ha hy hb hr ho h1 h2 h3 h4 ok
    go_enter Try.func26, Try.ntmps26
    go_wp2_with fail
    refine (iPos_any _ HX.out (HA.out.keep BX0.out.below) HY.out (HB.out.keep BX0.out.below) hN hM HR.out).mono ?_
    rintro e w1 ⟨rfl, bel⟩
    rw [HO.out]
    have BX1 := Lib.hid (BX0.out.go bel)
    have Z1 := Lib.hid (Z0.out.go bel)
    clear bel q0 q1 q2
    have q0 := BX1.out.cell0
    have q1 := BX1.out.cell1
    have q2 := BX1.out.cell2
    go_wp2_with fail
    refine (iopp_any _ HX.out (HA.out.keep BX1.out.below) HY.out (HB.out.keep BX1.out.below) OK.out).mono ?_
    rintro e w2 ⟨A', c', B', d', mid, rfl, m1, m2, own, pin, own2, bel⟩
    have BX2 := Lib.hid (BX1.out.go bel)
    have Z2 := Lib.hid (Z1.out.go bel)
    have hzz := Z1.out.lt
    have O1 := Lib.hid own
    have P1 := Lib.hid pin
    have O2 := Lib.hid own2
    clear bel q0 q1 q2 own pin own2
    have z0 := Z2.out.cell (i := 0) rfl
    have z1 := Z2.out.cell (i := 1) rfl
    have z2 := Z2.out.cell (i := 2) rfl
    have f0 := Z2.out.free 0
    have f1 := Z2.out.free 1
    have f2 := Z2.out.free 2
    obtain ⟨nx, hnx⟩ : ∃ n, (opX R xs).length = n := ⟨_, rfl⟩
    obtain ⟨nb, hnb⟩ : ∃ n, (opB bss).length = n := ⟨_, rfl⟩
    rw [hnx, hnb]
    rw [hnx] at O1 P1
    rw [hnb] at O2
    have NX := Lib.hid hnx
    have NB := Lib.hid hnb
    clear hnx hnb
    go_wp2
    have Z4 := ((Z2.out.set 0 (.int .i64 R)).set 1 (.slice A' nx c')).set 2 (.slice B' nb d')
    have y0 := Z4.cell (i := 0) rfl
    have y1 := Z4.cell (i := 1) rfl
    have y2 := Z4.cell (i := 2) rfl
    have T4 : Turns (w.heap.size + 1) (w.heap.size + 2) w2 _ := ((turns_set w2 (w.heap.size + 1) 0 (.int .i64 R)).trans (turns_set _ (w.heap.size + 1) 1 (.slice A' nx c'))).trans (turns_set _ (w.heap.size + 1) 2 (.slice B' nb d'))
    have O5 := T4.own O1.out P1.out (.inr (by omega))
    have O6 := ownSS_turns O2.out T4 (.inr (by omega))
    refine bodyPost_ret (v := .tuple #[.agg #[.int .i64 R, .slice A' nx c', .slice B' nb d'], .int .i64 0]) (by simp [results, Try.results26, go_sem, y0, y1, y2]) rfl ⟨A', c', B', d', mid, ?_, by omega, by simpa using m2, ?_, ?_, ?_, T4.below BX2.out.below BX2.out.below.size (by omega)⟩
    · rw [NX.out, NB.out]
    · rw [NX.out]; exact own_base O5 (by omega)
    · rw [NX.out]; exact inB_wide P1.out (by omega) (Nat.le_refl _)
    · rw [NB.out]; exact ownSS_wide O6 (Nat.le_refl _) (by simp)

set_option maxHeartbeats 6400000 in
set_option maxRecDepth 100000 in
theorem sOppositePoset_any {R : Int} {A B : Option Addr} {N c M d : Nat} {xs : List Int} {bss : List (List Int)} (w : World) (hx : xs.length = N) (ha : Rd w A (ints xs)) (hy : bss.length = M) (hb : RdSS w B bss) (hN : N ≤ 1048576) (hM : M ≤ 1048576) (hr : ∀ xs ∈ bss, (xs.length : Int) ≤ 1048576) :
    Calls Try.prog 27 #[.agg #[.int .i64 R, .slice A N c, .slice B M d]] w (RetPU w (opPR R xs bss) (opPX R xs bss) (opPB R xs bss) (opPC R xs bss)) := by
  have HX := Lib.hid hx
  have HA := Lib.hid ha
  have HY := Lib.hid hy
  have HB := Lib.hid hb
  have HR := Lib.hid hr
  have BX0 := Lib.hid ((Bp.start w #[.int .i64 R, .slice A N c, .slice B M d] 30).al (.cells #[.int .i64 0, .slice none 0 0, .slice none 0 0] 30))
  have Z0 := Lib.hid (by have := Blk.new (w.alloc (.cells #[.int .i64 R, .slice A N c, .slice B M d] 30)) #[.int .i64 0, .slice none 0 0, .slice none 0 0] 30; simpa using this)
  have q0 := BX0.out.cell0
  have q1 := BX0.out.cell1
  have q2 := BX0.out.cell2
  cases ho : posB R xs bss
  · have h1 : opPR R xs bss = 0 := by simp [opPR, ho]
    have h2 : opPX R xs bss = [] := by simp [opPX, ho]
    have h3 : opPB R xs bss = [] := by simp [opPB, ho]
    have h4 : opPC R xs bss = 1 := by simp [opPC, ho]
    rw [h1, h2, h3, h4]
    have HO := Lib.hid ho
    clear hx ha hy hb hr ho h1 h2 h3 h4
    go_enter Try.func27, Try.ntmps27
    go_wp2_with fail
    refine (sPos_any _ HX.out (HA.out.keep BX0.out.below) HY.out (HB.out.keep BX0.out.below) hN hM HR.out).mono ?_
    rintro e w1 ⟨rfl, bel⟩
    rw [HO.out]
    have BX1 := Lib.hid (BX0.out.go bel)
    have Z1 := Lib.hid (Z0.out.go bel)
    clear bel q0 q1 q2
    have z0 := Z1.out.cell (i := 0) rfl
    have z1 := Z1.out.cell (i := 1) rfl
    have z2 := Z1.out.cell (i := 2) rfl
    have f0 := Z1.out.free 0
    have f1 := Z1.out.free 1
    have f2 := Z1.out.free 2
    go_wp2
    have Z4 := ((Z1.out.set 0 (.int .i64 0)).set 1 (.slice none 0 0)).set 2 (.slice none 0 0)
    have y0 := Z4.cell (i := 0) rfl
    have y1 := Z4.cell (i := 1) rfl
    have y2 := Z4.cell (i := 2) rfl
    have T4 : Turns (w.heap.size + 1) (w.heap.size + 2) w1 _ := ((turns_set w1 (w.heap.size + 1) 0 (.int .i64 0)).trans (turns_set _ (w.heap.size + 1) 1 (.slice none 0 0))).trans (turns_set _ (w.heap.size + 1) 2 (.slice none 0 0))
    refine bodyPost_ret (v := .tuple #[.agg #[.int .i64 0, .slice none 0 0, .slice none 0 0], .int .i64 1]) (by simp [results, Try.results27, go_sem, y0, y1, y2]) rfl ⟨none, 0, none, 0, rfl, World.ownsRow_nil _ _ _ _, ownSS_nil _ _ _ _, T4.below BX1.out.below BX1.out.below.size (by omega)⟩
  · have ok := pB_iff.1 ho
    have hMN : M = N := by have := ok.ranks.len; omega
    subst hMN
    have hN5 := ok.ranks.n
    rw [hx] at hN5
    have hr1 := ok.ranks.r1
    have hr5 := ok.ranks.r5
    have h1 : opPR R xs bss = R := by simp [opPR, ho]
    have h2 : opPX R xs bss = opX R xs := by simp [opPX, ho]
    have h3 : opPB R xs bss = opB bss := by simp [opPB, ho]
    have h4 : opPC R xs bss = 0 := by simp [opPC, ho]
    rw [h1, h2, h3, h4]
    have HO := Lib.hid ho
    have OK := Lib.hid ok
    have HXL := Lib.hid (show (opX R xs).length = M by rw [opX_len, hx])
    have HBL := Lib.hid (show (opB bss).length = M by rw [opB_len, hy])
    clear hx ha hy hb ho h1 h2 h3 h4 ok hr
    go_enter Try.func27, Try.ntmps27
    go_wp2_with fail
    refine (sPos_any _ HX.out (HA.out.keep BX0.out.below) HY.out (HB.out.keep BX0.out.below) hN hM HR.out).mono ?_
    rintro e w1 ⟨rfl, bel⟩
    rw [HO.out]
    have BX1 := Lib.hid (BX0.out.go bel)
    have Z1 := Lib.hid (Z0.out.go bel)
    have hlt1 := Z1.out.lt
    have OP0 := Lib.hid (show OpS w w1 (w1.alloc (.cells #[.int .i64 R, .slice none 0 0, .slice none 0 0] 30)) #[.int .i64 R, .slice A M c, .slice B M d] R (w1.heap.size + 1) 0 0 0 0 none none ((opX R xs).take 0) ((opB bss).take 0) from
      ⟨BX1.out.al _, Z1.out.go (below1 _ _), Blk.new _ _ _, by simpa using World.ownsRow_nil _ _ _ _, fun k hk => by simp [Value.ownBlock] at hk, by simpa using ownSS_nil _ _ _ _, ⟨[], World.ownsRow_nil _ _ _ _, fun j u h => by simp at h⟩, by omega, Nat.le_refl _, by simp⟩)
    clear bel q0 q1 q2
    have q0 := BX1.out.cell0
    have q1 := BX1.out.cell1
    have q2 := BX1.out.cell2
    go_wp2
    clear q0 q1 q2 BX0 BX1 Z0 Z1 hlt1
    go_loopw [6] (fun v wr => ∃ (k g hi c4 d4 : Nat) (A4 B4 : Option Addr) (z : Int), v = .int .i64 z ∧ z + 1 = (k : Int) ∧ g + k = M ∧ OpS w w1 wr #[.int .i64 R, .slice A M c, .slice B M d] R hi g c4 g d4 A4 B4 ((opX R xs).take g) ((opB bss).take g)) (fun v _ => (intOf v + 1).toNat)
    case atStart => exact ⟨M, 0, _, 0, 0, none, none, _, rfl, by omega, by omega, OP0.out⟩
    case round =>
      obtain ⟨k, g, hi, c4, d4, A4, B4, z, rfl, hz, hgk, op⟩ := hrel
      have OP := Lib.hid op
      have HGK := Lib.hid hgk
      clear op OP0
      by_cases hk : k = 0
      · obtain rfl : z = -1 := by omega
        obtain rfl : g = M := by omega
        have z0 := OP.out.z.cell (i := 0) rfl
        have z1 := OP.out.z.cell (i := 1) rfl
        have z2 := OP.out.z.cell (i := 2) rfl
        have f0 := OP.out.z.free 0
        have f1 := OP.out.z.free 1
        have f2 := OP.out.z.free 2
        have o0 := OP.out.o.cell (i := 0) rfl
        have o1 := OP.out.o.cell (i := 1) rfl
        have o2 := OP.out.o.cell (i := 2) rfl
        clear hz hgk
        go_wp2
        have Z4 := ((OP.out.z.set 0 (.int .i64 R)).set 1 (.slice A4 g c4)).set 2 (.slice B4 g d4)
        have y0 := Z4.cell (i := 0) rfl
        have y1 := Z4.cell (i := 1) rfl
        have y2 := Z4.cell (i := 2) rfl
        have T4 : Turns (w.heap.size + 1) (w.heap.size + 2) wr _ := ((turns_set wr (w.heap.size + 1) 0 (.int .i64 R)).trans (turns_set _ (w.heap.size + 1) 1 (.slice A4 g c4))).trans (turns_set _ (w.heap.size + 1) 2 (.slice B4 g d4))
        have h1 := OP.out.h1
        have h2 := OP.out.h2
        have h3 := OP.out.hi
        have O5 := T4.own OP.out.r OP.out.rin (.inr (by omega))
        have O6 := ownSS_turns OP.out.s T4 (.inr (by omega))
        rw [List.take_of_length_le (by rw [HXL.out]; omega)] at O5
        rw [List.take_of_length_le (by rw [HBL.out]; omega)] at O6
        refine bodyPost_ret (v := .tuple #[.agg #[.int .i64 R, .slice A4 g c4, .slice B4 g d4], .int .i64 0]) (by simp [results, Try.results27, go_sem, y0, y1, y2]) rfl ⟨A4, c4, B4, d4, ?_, ?_, ?_, T4.below OP.out.k.below OP.out.k.below.size (by omega)⟩
        · rw [HXL.out, HBL.out]
        · rw [HXL.out]; exact own_base O5 (by omega)
        · rw [HBL.out]; exact ownSS_wide O6 (by omega) (by simpa using h3)
      · obtain ⟨e, rfl⟩ : ∃ e, k = e + 1 := ⟨k - 1, by omega⟩
        obtain rfl : z = (e : Int) := by omega
        obtain ⟨b1, ob1, x, rfl, hgx, hcx0⟩ := HA.out.int (k := e) (by rw [HX.out]; omega)
        have hcx := cell_be hcx0 OP.out.k.below
        have q0 := OP.out.k.cell0
        have q1 := OP.out.k.cell1
        have o1 := OP.out.o.cell (i := 1) rfl
        have hxr := OK.out.ranks.rk e x hgx
        have hXg : (opX R xs)[g]? = some (R - 1 - x) := by
          have := opX_at (R := R) hgx
          have e1 : xs.length - 1 - e = g := by rw [HX.out]; omega
          rwa [e1] at this
        have HXG := Lib.hid hXg
        have HCX := Lib.hid hcx0
        have j2 : IntKind.i64.wrap (R - 1) = R - 1 := IntWalk.i64_in _ (by omega)
        have j3 : IntKind.i64.wrap (R - 1 - x) = R - 1 - x := IntWalk.i64_in _ (by omega)
        have eM : (e : Int) < (M : Int) := by omega
        have hgM : g < M := by omega
        have OPd := Lib.hid (OP.out.go (below_drewN (Below.refl _ _) 1))
        obtain ⟨i0, hi0, hz0, hz1, hz2⟩ := info_parts Try.info2
        have hnews : ∀ (j : Nat) (u : Value), ([.int .i64 (R - 1 - x)] : List Value)[j]? = some u → ((wr.drewN 1).alloc (.cells #[.int .i64 (R - 1 - x)] 2)).cell? ((⟨wr.heap.size, 0, none⟩ : Addr).add j) = some u := by
          intro j y hj
          match j, hj with
          | 0, hj =>
            simp at hj
            subst hj
            have := (Blk.new (wr.drewN 1) #[.int .i64 (R - 1 - x)] 2).cell (i := 0) rfl
            simpa [Addr.add] using this
        have hone : ∀ u ∈ ([.int .i64 (R - 1 - x)] : List Value), u.oneCell' = true := by
          intro y hy
          simp at hy
          subst hy
          rfl
        have HNEWS := Lib.hid hnews
        have HONE := Lib.hid hone
        have hb9 : w1.heap.size + 1 ≤ wr.heap.size := by have := OP.out.h2; have := OP.out.hi; omega
        have h63 : g + 1 ≤ maxLen := by unfold maxLen; omega
        clear hgx hXg hz hgk hcx0 hnews hone
        have o1' := cell_al o1 (.cells #[.int .i64 (R - 1 - x)] 2)
        have HTK := Lib.hid (show (opX R xs).take (g + 1) = (opX R xs).take g ++ [R - 1 - x] from by rw [List.take_add_one, HXG.out]; rfl)
        go_wp2
        go_cut [] from 21 to 66 (fun wx => ∃ (hi2 c5 : Nat) (A5 : Option Addr), OpS w w1 wx #[.int .i64 R, .slice (some ⟨b1, ob1, none⟩) M c, .slice B M d] R hi2 (g + 1) c5 g d4 A5 B4 ((opX R xs).take (g + 1)) ((opB bss).take g))
        case first =>
          go_region_law ((refine step_append_lies _ (by rfl) _ _ 28 (by rfl) (w1.heap.size + 1) 2 i0 (.int .i64 0) 1 8 Try.underlying28 hi0 hz0 hz1 hz2 (by rfl) (by decide) (.slice A4 g c4) g _ (by rfl) (OPd.out.r.alloc _) ⟨wr.heap.size, 0, none⟩ 1 1 [.int .i64 (R - 1 - x)] (by rfl) (by rfl) HNEWS.out HONE.out (by omega) h63 (by omega) (by simp; omega) (wr.heap.size + 1) (by simp) ?_; intro gg cap w4 own4 gr4 hat4 hlt4; have F4 := OPd.out.rpush2 gr4 rfl; have f1 := F4.free 1; have p1 := F4.cell (i := 1) rfl))
          all_goals
            go_wp2_with fail
            go_meet
            exact ⟨_, cap, some ⟨gg, 0, none⟩, by rw [HTK.out]; exact (OPd.out.rpush own4 gr4 (by rcases hat4 with h | h; exact .inl (by rw [h]; rfl); exact .inr (by rw [h]; rfl))).2⟩
        case rest =>
          obtain ⟨hi2, c5, A5, op2⟩ := hcut
          have O2 := Lib.hid op2
          have h12 := op2.h1
          have h22 := op2.h2
          have h32 := op2.hi
          clear op2 OP OPd q0 q1 o1 o1' hcx HTK HNEWS HONE hi0 hz0 hz1 hz2 j2 j3 h63 hb9
          have ON0 := Lib.hid (show (wc.alloc (.cells #[] 2)).ownsRow wc.heap.size 2 1 (.slice (some ⟨wc.heap.size, 0, none⟩) 0 0) 0 (ints (opTo bss g 0)) from by
            have := World.ownsRow_lit (base := wc.heap.size) (e := 2) (size := 1) wc #[] 0 (Nat.le_refl _) (by decide) (by simp)
            simpa [opTo_zero] using this)
          go_wp2
          go_loopw [7, 8] (fun u v wr => ∃ (j m6 c6 : Nat) (A6 : Option Addr) (zz : Int), u = .slice A6 m6 c6 ∧ v = .int .i64 zz ∧ zz + 1 + (j : Int) = (M : Int) ∧ j ≤ g ∧ (opTo bss g j).length = m6 ∧ wr.ownsRow wc.heap.size 2 1 (.slice A6 m6 c6) m6 (ints (opTo bss g j)) ∧ Below wc.heap.size wc wr) (fun _ v _ => (intOf v + 1).toNat)
          case atStart => exact ⟨0, 0, 0, _, (M : Int) - 1, rfl, rfl, by omega, Nat.zero_le _, rfl, ON0.out, below1 _ _⟩
          case round =>
            obtain ⟨j, m6, c6, A6, zz, rfl, rfl, hzz, hjg, hm6, own, bel⟩ := hrel
            have OW := Lib.hid own
            have BE := Lib.hid bel
            have O3 := Lib.hid (O2.out.go bel)
            have HM6 := Lib.hid hm6
            have hzz1 : zz + 1 + (j : Int) ≤ (M : Int) := by omega
            have hzz2 : (M : Int) ≤ zz + 1 + (j : Int) := by omega
            have hge1 : (g : Int) + (e : Int) + 1 ≤ (M : Int) := by have := HGK.out; omega
            have hge2 : (M : Int) ≤ (g : Int) + (e : Int) + 1 := by have := HGK.out; omega
            have hsz9 := bel.size
            have hmb : m6 ≤ 500 := by have : (opTo bss g j).length ≤ j := opTo_len; omega
            clear own bel hzz hm6 ON0
            by_cases hlt : j < g
            · obtain ⟨f, rfl⟩ := Int.eq_ofNat_of_zero_le (show 0 ≤ zz by omega)
              obtain ⟨b2, ob2, A2, c2, bf, rfl, hgb, hcb0, hrb, hmbb⟩ := HB.out.row (k := f) (by rw [HY.out]; omega)
              have hcb := cell_be hcb0 O3.out.k.below
              have hlr := HR.out bf (List.mem_of_getElem? hgb)
              obtain ⟨n2, hl2⟩ : ∃ l, bf.length = l := ⟨_, rfl⟩
              rw [hl2] at hcb hmbb hlr
              have HL2 := Lib.hid hl2
              have HRB := Lib.hid (hrb.keep O3.out.k.below)
              have q2 := O3.out.k.cell2
              have hsu := opTo_succ (bss := bss) (i := g) (k := j)
              have e1 : bss.length - 1 - g = e := by have := HY.out; omega
              have e2 : bss.length - 1 - j = f := by have := HY.out; omega
              rw [e1, e2, getD_some hgb] at hsu
              cases hin : decide ((e : Int) ∈ bf)
              · rw [if_neg (of_decide_eq_false hin), List.append_nil] at hsu
                have HSU := Lib.hid hsu
                have HIN := Lib.hid hin
                clear hcb0 hl2 hgb hrb hsu e1 e2 hin
                go_wp2_with fail
                refine (shas_any _ HL2.out HRB.out (by omega)).mono ?_
                rintro e' w' ⟨rfl, rfl⟩
                rw [HIN.out]
                go_wp2
                go_roundw
                case rel => exact ⟨j + 1, m6, c6, A6, (f : Int) - 1, rfl, rfl, by omega, by omega, by rw [HSU.out]; exact HM6.out, by rw [HSU.out]; exact OW.out, BE.out⟩
                case measure => simp [intOf]
              · rw [if_pos (of_decide_eq_true hin)] at hsu
                have HSU := Lib.hid hsu
                have HIN := Lib.hid hin
                have HJV := Lib.hid (show (M : Int) - 1 - (f : Int) = (j : Int) by omega)
                clear hcb0 hl2 hgb hrb hsu e1 e2 hin
                go_wp2_with fail
                refine (shas_any _ HL2.out HRB.out (by omega)).mono ?_
                rintro e' w' ⟨rfl, rfl⟩
                rw [HIN.out]
                go_wp2_with (at_builtin; refine wpList_push _ rfl _ _ 28 2 rfl Try.underlying28 (.int .i64 0) 8 Try.info2 rfl wc.heap.size _ m6 _ rfl OW.out _ rfl rfl (by omega) (by omega) hsz9 ?_)
                intro A7 c7 w7 own7 bel7 _
                rw [HJV.out] at own7
                have OW7 := Lib.hid (show w7.ownsRow wc.heap.size 2 1 (.slice A7 (m6 + 1) c7) (m6 + 1) (ints (opTo bss g (j + 1))) from by rw [HSU.out]; simpa [ints] using own7)
                have BE7 := Lib.hid (BE.out.trans bel7)
                clear own7 bel7
                go_wp2
                go_roundw
                case rel => exact ⟨j + 1, m6 + 1, c7, A7, (f : Int) - 1, rfl, rfl, by omega, by omega, by rw [HSU.out, List.length_append, HM6.out]; rfl, OW7.out, BE7.out⟩
                case measure => simp [intOf]
            · obtain rfl : j = g := by omega
              have o2 := O3.out.o.cell (i := 2) rfl
              obtain ⟨vals, hv, hvin, hvr⟩ := O3.out.s
              have VR := Lib.hid hv
              have h33 : w1.heap.size + 1 ≤ wr.heap.size := by have := O3.out.h2; have := O3.out.hi; omega
              have HTB := Lib.hid (show (opB bss).take (j + 1) = (opB bss).take j ++ [opTo bss j j] from by
                rw [List.take_add_one, opB_at (by have := HY.out; omega)]; rfl)
              have hOD : wr.ownsRow wc.heap.size 2 1 (.slice A6 (opTo bss j j).length c6) (opTo bss j j).length (ints (opTo bss j j)) := by rw [HM6.out]; exact OW.out
              have OD := Lib.hid hOD
              clear hv hvin hvr hOD
              go_wp2_with (at_builtin; refine wpList_push2 _ rfl _ _ 24 28 rfl Try.underlying24 (.slice none 0 0) 24 Try.infoS rfl (w1.heap.size + 1) _ _ _ rfl VR.out _ rfl rfl (by omega) (by omega) h33 ?_)
              intro A8 c8 w8 own8 gr8
              obtain ⟨F8, op8⟩ := O3.out.bpush (D := opTo bss j j) OD.out h32 (fun vals' h' => by rw [row_unique h' VR.out, HM6.out]; exact own8) gr8
              rw [← HTB.out] at op8
              have O8 := Lib.hid op8
              have p2 := F8.cell (i := 2) rfl
              have f2 := F8.free 2
              have HG8 := Lib.hid (show j + 1 + e = M by have := HGK.out; omega)
              clear own8 gr8 F8 op8 o2
              go_wp2
              go_roundw
              case rel => exact ⟨e, j + 1, _, c5, c8, A5, A8, (e : Int) - 1, rfl, by omega, HG8.out, O8.out⟩
              case measure => simp [intOf]
theorem opPX_le (R : Int) (xs : List Int) (bss : List (List Int)) : (opPX R xs bss).length ≤ 1048576 := by
  unfold opPX
  split
  · rename_i h
    have := (pB_iff.1 h).ranks.n
    rw [opX_len]
    omega
  · simp
theorem opPB_le (R : Int) (xs : List Int) (bss : List (List Int)) : (opPB R xs bss).length ≤ 1048576 ∧ ∀ b ∈ opPB R xs bss, (b.length : Int) ≤ 1048576 := by
  unfold opPB
  split
  · rename_i h
    have h1 := (pB_iff.1 h).ranks.n
    have h2 := (pB_iff.1 h).ranks.len
    refine ⟨by rw [opB_len]; omega, fun b hb => ?_⟩
    have := opB_row b hb
    omega
  · simp
end Go.Proofs.Ytnfngfpfihkclaa
