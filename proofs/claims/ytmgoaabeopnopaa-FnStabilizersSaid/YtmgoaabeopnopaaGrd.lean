/- spec.l05Grid at the pairs that are drawn (written by ggrd.py). -/
import Derived.Test.YtmgoaabeopnopaaL17
import Derived.Test.YtmgoaabeopnopaaL16
import Derived.Test.YtmgoaabeopnopaaL12
namespace Go.Proofs.Ytmgoaabeopnopaa
open Go.RowKit

/-- A list is one of moves, told by a test. -/
def invB (n : Nat) (xs : List Int) : Bool := xs.length == n && (List.range n).all fun x => match xs[x]? with | some y => decide (0 ≤ y) && decide (y < n) && (xs[y.toNat]? == some (x : Int)) | none => false
theorem invB_ok {n : Nat} {xs : List Int} (h : invB n xs = true) : InvL n xs := by
  simp only [invB, Bool.and_eq_true, beq_iff_eq, List.all_eq_true] at h
  refine ⟨h.1, fun x hx => ?_⟩
  have := h.2 x (List.mem_range.2 hx)
  split at this
  · rename_i y hy
    simp only [Bool.and_eq_true, decide_eq_true_eq, beq_iff_eq] at this
    obtain ⟨⟨h0, h1⟩, h2⟩ := this
    obtain ⟨k, rfl⟩ := Int.eq_ofNat_of_zero_le h0
    exact ⟨k, by omega, hy, by simpa using h2⟩
  · simp at this
abbrev grA (H : Nat) (f c0 c1 c2 : Nat) (A0 A1 A2 : Option Addr) (Z O T : List Int) : List Pc :=
  [.blk H #[.slice none 0 0] 27, .own 2 A0 f c0 (ints (Z.take f)), .own 2 A1 f c1 (ints (O.take f)), .own 2 A2 f c2 (ints (T.take f))]
theorem take_more {L : List Int} {f : Nat} {x : Int} (h : L[f]? = some x) : ints (L.take (f + 1)) = ints (L.take f) ++ [.int .i64 x] := by
  rw [List.take_add_one, h]; simp
def grZ11 : List Int := [1, 0, 3, 2, 5, 4, 7, 6]
def grO11 : List Int := [7, 2, 1, 4, 3, 6, 5, 0]
def grT11 : List Int := [5, 4, 7, 6, 1, 0, 3, 2]
theorem gr11_ok : OkI 8 [grZ11, grO11, grT11] := by
  refine ⟨fun xs hx => ?_, by decide, by decide, by decide, by decide⟩
  simp only [List.mem_cons, List.not_mem_nil, or_false] at hx
  rcases hx with rfl | rfl | rfl <;> exact invB_ok (by decide +kernel)
set_option maxRecDepth 100000 in
set_option maxHeartbeats 6400000 in
theorem grid11 (w : World) :
    Calls Try.prog 156 #[.int .i64 1, .int .i64 1] w fun e w' => ∃ (A' : Option Addr) (c' : Nat) (vals : List Value), e = .returned (.agg #[.slice A' 3 c']) ∧ St w w' [.rows 2 36 A' 3 c' vals [grZ11, grO11, grT11]] := by
  have st0 := ((((St.start w).addBlk #[.slice none 0 0] 27).addMade 2).addMade 2).addMade 2
  simp at st0
  have S0 := Lib.hid (show St w _ (grA w.heap.size 0 0 0 0 (some ⟨w.heap.size + 1, 0, none⟩) (some ⟨w.heap.size + 1 + 1, 0, none⟩) (some ⟨w.heap.size + 1 + 1 + 1, 0, none⟩) grZ11 grO11 grT11) from st0)
  clear st0
  go_enter Try.func156, Try.ntmps156
  go_wp2
  go_loopw [5, 6, 7, 8] (fun u v x q wr => ∃ (f c0 c1 c2 : Nat) (A0 A1 A2 : Option Addr), f ≤ 8 ∧ u = .slice A0 f c0 ∧ v = .slice A1 f c1 ∧ x = .slice A2 f c2 ∧ q = .int .i64 f ∧ St w wr (grA w.heap.size f c0 c1 c2 A0 A1 A2 grZ11 grO11 grT11)) (fun _ _ _ q _ => 8 - (intOf q).toNat)
  case atStart => exact ⟨0, 0, 0, 0, _, _, _, Nat.zero_le _, rfl, rfl, rfl, rfl, S0.out⟩
  case round =>
    obtain ⟨f, c0, c1, c2, A0, A1, A2, hf, rfl, rfl, rfl, rfl, st⟩ := hrel
    clear S0
    by_cases hfN : f < 8
    · have hcases : f = 0 ∨ f = 1 ∨ f = 2 ∨ f = 3 ∨ f = 4 ∨ f = 5 ∨ f = 6 ∨ f = 7 := by omega
      have S1 := Lib.hid st
      clear st hf hfN
      rcases hcases with rfl | rfl | rfl | rfl | rfl | rfl | rfl | rfl
      · have bz : bits .xor .i64 4 1 = 5 := by rfl
        go_wp2
        go_quiet (fail)
        have sq := S1.out.go (below_drewN (Below.refl _ _) nq)
        have hlo := sq.lo
        have S2 := Lib.hid sq
        clear sq S1
        go_wp2_with (at_builtin; refine wpList_push_at _ rfl _ _ 36 2 rfl Try.underlying36 (.int .i64 0) 8 Try.info2 rfl w.heap.size _ _ _ rfl (S2.out.own (i := 1) rfl) _ rfl rfl (by decide) (by decide) hlo ?_)
        intro B1 d1 x1 own gr hat
        have own2 : x1.ownsRow w.heap.size 2 1 (.slice B1 1 d1) 1 (ints (grZ11.take 1)) := by
          rw [take_more (L := grZ11) (f := 0) (x := 1) rfl]
          exact own
        have sq := S2.out.push (i := 1) rfl own2 gr hat
        clear hlo
        have hlo := sq.lo
        have S3 := Lib.hid sq
        clear sq own own2 gr hat S2
        go_wp2_with (at_builtin; refine wpList_push_at _ rfl _ _ 36 2 rfl Try.underlying36 (.int .i64 0) 8 Try.info2 rfl w.heap.size _ _ _ rfl (S3.out.own (i := 2) rfl) _ rfl rfl (by decide) (by decide) hlo ?_)
        intro B2 d2 x2 own gr hat
        have own2 : x2.ownsRow w.heap.size 2 1 (.slice B2 1 d2) 1 (ints (grO11.take 1)) := by
          rw [take_more (L := grO11) (f := 0) (x := 7) rfl]
          exact own
        have sq := S3.out.push (i := 2) rfl own2 gr hat
        clear hlo
        have hlo := sq.lo
        have S4 := Lib.hid sq
        clear sq own own2 gr hat S3
        go_wp2_with (at_builtin; refine wpList_push_at _ rfl _ _ 36 2 rfl Try.underlying36 (.int .i64 0) 8 Try.info2 rfl w.heap.size _ _ _ rfl (S4.out.own (i := 3) rfl) _ rfl rfl (by decide) (by decide) hlo ?_)
        intro B3 d3 x3 own gr hat
        have own2 : x3.ownsRow w.heap.size 2 1 (.slice B3 1 d3) 1 (ints (grT11.take 1)) := by
          rw [take_more (L := grT11) (f := 0) (x := 5) rfl]
          exact own
        have sq := S4.out.push (i := 3) rfl own2 gr hat
        clear hlo
        have hlo := sq.lo
        have S5 := Lib.hid sq
        clear sq own own2 gr hat S4
        go_wp2
        go_roundw
        case rel => exact ⟨1, d1, d2, d3, B1, B2, B3, by decide, rfl, rfl, rfl, rfl, S5.out⟩
        case measure => simp [intOf]
      · have bz : bits .xor .i64 5 1 = 4 := by rfl
        go_wp2
        go_quiet (fail)
        have sq := S1.out.go (below_drewN (Below.refl _ _) nq)
        have hlo := sq.lo
        have S2 := Lib.hid sq
        clear sq S1
        go_wp2_with (at_builtin; refine wpList_push_at _ rfl _ _ 36 2 rfl Try.underlying36 (.int .i64 0) 8 Try.info2 rfl w.heap.size _ _ _ rfl (S2.out.own (i := 1) rfl) _ rfl rfl (by decide) (by decide) hlo ?_)
        intro B1 d1 x1 own gr hat
        have own2 : x1.ownsRow w.heap.size 2 1 (.slice B1 2 d1) 2 (ints (grZ11.take 2)) := by
          rw [take_more (L := grZ11) (f := 1) (x := 0) rfl]
          exact own
        have sq := S2.out.push (i := 1) rfl own2 gr hat
        clear hlo
        have hlo := sq.lo
        have S3 := Lib.hid sq
        clear sq own own2 gr hat S2
        go_wp2_with (at_builtin; refine wpList_push_at _ rfl _ _ 36 2 rfl Try.underlying36 (.int .i64 0) 8 Try.info2 rfl w.heap.size _ _ _ rfl (S3.out.own (i := 2) rfl) _ rfl rfl (by decide) (by decide) hlo ?_)
        intro B2 d2 x2 own gr hat
        have own2 : x2.ownsRow w.heap.size 2 1 (.slice B2 2 d2) 2 (ints (grO11.take 2)) := by
          rw [take_more (L := grO11) (f := 1) (x := 2) rfl]
          exact own
        have sq := S3.out.push (i := 2) rfl own2 gr hat
        clear hlo
        have hlo := sq.lo
        have S4 := Lib.hid sq
        clear sq own own2 gr hat S3
        go_wp2_with (at_builtin; refine wpList_push_at _ rfl _ _ 36 2 rfl Try.underlying36 (.int .i64 0) 8 Try.info2 rfl w.heap.size _ _ _ rfl (S4.out.own (i := 3) rfl) _ rfl rfl (by decide) (by decide) hlo ?_)
        intro B3 d3 x3 own gr hat
        have own2 : x3.ownsRow w.heap.size 2 1 (.slice B3 2 d3) 2 (ints (grT11.take 2)) := by
          rw [take_more (L := grT11) (f := 1) (x := 4) rfl]
          exact own
        have sq := S4.out.push (i := 3) rfl own2 gr hat
        clear hlo
        have hlo := sq.lo
        have S5 := Lib.hid sq
        clear sq own own2 gr hat S4
        go_wp2
        go_roundw
        case rel => exact ⟨2, d1, d2, d3, B1, B2, B3, by decide, rfl, rfl, rfl, rfl, S5.out⟩
        case measure => simp [intOf]
      · have bz : bits .xor .i64 6 1 = 7 := by rfl
        go_wp2
        go_quiet (fail)
        have sq := S1.out.go (below_drewN (Below.refl _ _) nq)
        have hlo := sq.lo
        have S2 := Lib.hid sq
        clear sq S1
        go_wp2_with (at_builtin; refine wpList_push_at _ rfl _ _ 36 2 rfl Try.underlying36 (.int .i64 0) 8 Try.info2 rfl w.heap.size _ _ _ rfl (S2.out.own (i := 1) rfl) _ rfl rfl (by decide) (by decide) hlo ?_)
        intro B1 d1 x1 own gr hat
        have own2 : x1.ownsRow w.heap.size 2 1 (.slice B1 3 d1) 3 (ints (grZ11.take 3)) := by
          rw [take_more (L := grZ11) (f := 2) (x := 3) rfl]
          exact own
        have sq := S2.out.push (i := 1) rfl own2 gr hat
        clear hlo
        have hlo := sq.lo
        have S3 := Lib.hid sq
        clear sq own own2 gr hat S2
        go_wp2_with (at_builtin; refine wpList_push_at _ rfl _ _ 36 2 rfl Try.underlying36 (.int .i64 0) 8 Try.info2 rfl w.heap.size _ _ _ rfl (S3.out.own (i := 2) rfl) _ rfl rfl (by decide) (by decide) hlo ?_)
        intro B2 d2 x2 own gr hat
        have own2 : x2.ownsRow w.heap.size 2 1 (.slice B2 3 d2) 3 (ints (grO11.take 3)) := by
          rw [take_more (L := grO11) (f := 2) (x := 1) rfl]
          exact own
        have sq := S3.out.push (i := 2) rfl own2 gr hat
        clear hlo
        have hlo := sq.lo
        have S4 := Lib.hid sq
        clear sq own own2 gr hat S3
        go_wp2_with (at_builtin; refine wpList_push_at _ rfl _ _ 36 2 rfl Try.underlying36 (.int .i64 0) 8 Try.info2 rfl w.heap.size _ _ _ rfl (S4.out.own (i := 3) rfl) _ rfl rfl (by decide) (by decide) hlo ?_)
        intro B3 d3 x3 own gr hat
        have own2 : x3.ownsRow w.heap.size 2 1 (.slice B3 3 d3) 3 (ints (grT11.take 3)) := by
          rw [take_more (L := grT11) (f := 2) (x := 7) rfl]
          exact own
        have sq := S4.out.push (i := 3) rfl own2 gr hat
        clear hlo
        have hlo := sq.lo
        have S5 := Lib.hid sq
        clear sq own own2 gr hat S4
        go_wp2
        go_roundw
        case rel => exact ⟨3, d1, d2, d3, B1, B2, B3, by decide, rfl, rfl, rfl, rfl, S5.out⟩
        case measure => simp [intOf]
      · have bz : bits .xor .i64 7 1 = 6 := by rfl
        go_wp2
        go_quiet (fail)
        have sq := S1.out.go (below_drewN (Below.refl _ _) nq)
        have hlo := sq.lo
        have S2 := Lib.hid sq
        clear sq S1
        go_wp2_with (at_builtin; refine wpList_push_at _ rfl _ _ 36 2 rfl Try.underlying36 (.int .i64 0) 8 Try.info2 rfl w.heap.size _ _ _ rfl (S2.out.own (i := 1) rfl) _ rfl rfl (by decide) (by decide) hlo ?_)
        intro B1 d1 x1 own gr hat
        have own2 : x1.ownsRow w.heap.size 2 1 (.slice B1 4 d1) 4 (ints (grZ11.take 4)) := by
          rw [take_more (L := grZ11) (f := 3) (x := 2) rfl]
          exact own
        have sq := S2.out.push (i := 1) rfl own2 gr hat
        clear hlo
        have hlo := sq.lo
        have S3 := Lib.hid sq
        clear sq own own2 gr hat S2
        go_wp2_with (at_builtin; refine wpList_push_at _ rfl _ _ 36 2 rfl Try.underlying36 (.int .i64 0) 8 Try.info2 rfl w.heap.size _ _ _ rfl (S3.out.own (i := 2) rfl) _ rfl rfl (by decide) (by decide) hlo ?_)
        intro B2 d2 x2 own gr hat
        have own2 : x2.ownsRow w.heap.size 2 1 (.slice B2 4 d2) 4 (ints (grO11.take 4)) := by
          rw [take_more (L := grO11) (f := 3) (x := 4) rfl]
          exact own
        have sq := S3.out.push (i := 2) rfl own2 gr hat
        clear hlo
        have hlo := sq.lo
        have S4 := Lib.hid sq
        clear sq own own2 gr hat S3
        go_wp2_with (at_builtin; refine wpList_push_at _ rfl _ _ 36 2 rfl Try.underlying36 (.int .i64 0) 8 Try.info2 rfl w.heap.size _ _ _ rfl (S4.out.own (i := 3) rfl) _ rfl rfl (by decide) (by decide) hlo ?_)
        intro B3 d3 x3 own gr hat
        have own2 : x3.ownsRow w.heap.size 2 1 (.slice B3 4 d3) 4 (ints (grT11.take 4)) := by
          rw [take_more (L := grT11) (f := 3) (x := 6) rfl]
          exact own
        have sq := S4.out.push (i := 3) rfl own2 gr hat
        clear hlo
        have hlo := sq.lo
        have S5 := Lib.hid sq
        clear sq own own2 gr hat S4
        go_wp2
        go_roundw
        case rel => exact ⟨4, d1, d2, d3, B1, B2, B3, by decide, rfl, rfl, rfl, rfl, S5.out⟩
        case measure => simp [intOf]
      · have bz : bits .xor .i64 0 1 = 1 := by rfl
        go_wp2
        go_quiet (fail)
        have sq := S1.out.go (below_drewN (Below.refl _ _) nq)
        have hlo := sq.lo
        have S2 := Lib.hid sq
        clear sq S1
        go_wp2_with (at_builtin; refine wpList_push_at _ rfl _ _ 36 2 rfl Try.underlying36 (.int .i64 0) 8 Try.info2 rfl w.heap.size _ _ _ rfl (S2.out.own (i := 1) rfl) _ rfl rfl (by decide) (by decide) hlo ?_)
        intro B1 d1 x1 own gr hat
        have own2 : x1.ownsRow w.heap.size 2 1 (.slice B1 5 d1) 5 (ints (grZ11.take 5)) := by
          rw [take_more (L := grZ11) (f := 4) (x := 5) rfl]
          exact own
        have sq := S2.out.push (i := 1) rfl own2 gr hat
        clear hlo
        have hlo := sq.lo
        have S3 := Lib.hid sq
        clear sq own own2 gr hat S2
        go_wp2_with (at_builtin; refine wpList_push_at _ rfl _ _ 36 2 rfl Try.underlying36 (.int .i64 0) 8 Try.info2 rfl w.heap.size _ _ _ rfl (S3.out.own (i := 2) rfl) _ rfl rfl (by decide) (by decide) hlo ?_)
        intro B2 d2 x2 own gr hat
        have own2 : x2.ownsRow w.heap.size 2 1 (.slice B2 5 d2) 5 (ints (grO11.take 5)) := by
          rw [take_more (L := grO11) (f := 4) (x := 3) rfl]
          exact own
        have sq := S3.out.push (i := 2) rfl own2 gr hat
        clear hlo
        have hlo := sq.lo
        have S4 := Lib.hid sq
        clear sq own own2 gr hat S3
        go_wp2_with (at_builtin; refine wpList_push_at _ rfl _ _ 36 2 rfl Try.underlying36 (.int .i64 0) 8 Try.info2 rfl w.heap.size _ _ _ rfl (S4.out.own (i := 3) rfl) _ rfl rfl (by decide) (by decide) hlo ?_)
        intro B3 d3 x3 own gr hat
        have own2 : x3.ownsRow w.heap.size 2 1 (.slice B3 5 d3) 5 (ints (grT11.take 5)) := by
          rw [take_more (L := grT11) (f := 4) (x := 1) rfl]
          exact own
        have sq := S4.out.push (i := 3) rfl own2 gr hat
        clear hlo
        have hlo := sq.lo
        have S5 := Lib.hid sq
        clear sq own own2 gr hat S4
        go_wp2
        go_roundw
        case rel => exact ⟨5, d1, d2, d3, B1, B2, B3, by decide, rfl, rfl, rfl, rfl, S5.out⟩
        case measure => simp [intOf]
      · have bz : bits .xor .i64 1 1 = 0 := by rfl
        go_wp2
        go_quiet (fail)
        have sq := S1.out.go (below_drewN (Below.refl _ _) nq)
        have hlo := sq.lo
        have S2 := Lib.hid sq
        clear sq S1
        go_wp2_with (at_builtin; refine wpList_push_at _ rfl _ _ 36 2 rfl Try.underlying36 (.int .i64 0) 8 Try.info2 rfl w.heap.size _ _ _ rfl (S2.out.own (i := 1) rfl) _ rfl rfl (by decide) (by decide) hlo ?_)
        intro B1 d1 x1 own gr hat
        have own2 : x1.ownsRow w.heap.size 2 1 (.slice B1 6 d1) 6 (ints (grZ11.take 6)) := by
          rw [take_more (L := grZ11) (f := 5) (x := 4) rfl]
          exact own
        have sq := S2.out.push (i := 1) rfl own2 gr hat
        clear hlo
        have hlo := sq.lo
        have S3 := Lib.hid sq
        clear sq own own2 gr hat S2
        go_wp2_with (at_builtin; refine wpList_push_at _ rfl _ _ 36 2 rfl Try.underlying36 (.int .i64 0) 8 Try.info2 rfl w.heap.size _ _ _ rfl (S3.out.own (i := 2) rfl) _ rfl rfl (by decide) (by decide) hlo ?_)
        intro B2 d2 x2 own gr hat
        have own2 : x2.ownsRow w.heap.size 2 1 (.slice B2 6 d2) 6 (ints (grO11.take 6)) := by
          rw [take_more (L := grO11) (f := 5) (x := 6) rfl]
          exact own
        have sq := S3.out.push (i := 2) rfl own2 gr hat
        clear hlo
        have hlo := sq.lo
        have S4 := Lib.hid sq
        clear sq own own2 gr hat S3
        go_wp2_with (at_builtin; refine wpList_push_at _ rfl _ _ 36 2 rfl Try.underlying36 (.int .i64 0) 8 Try.info2 rfl w.heap.size _ _ _ rfl (S4.out.own (i := 3) rfl) _ rfl rfl (by decide) (by decide) hlo ?_)
        intro B3 d3 x3 own gr hat
        have own2 : x3.ownsRow w.heap.size 2 1 (.slice B3 6 d3) 6 (ints (grT11.take 6)) := by
          rw [take_more (L := grT11) (f := 5) (x := 0) rfl]
          exact own
        have sq := S4.out.push (i := 3) rfl own2 gr hat
        clear hlo
        have hlo := sq.lo
        have S5 := Lib.hid sq
        clear sq own own2 gr hat S4
        go_wp2
        go_roundw
        case rel => exact ⟨6, d1, d2, d3, B1, B2, B3, by decide, rfl, rfl, rfl, rfl, S5.out⟩
        case measure => simp [intOf]
      · have bz : bits .xor .i64 2 1 = 3 := by rfl
        go_wp2
        go_quiet (fail)
        have sq := S1.out.go (below_drewN (Below.refl _ _) nq)
        have hlo := sq.lo
        have S2 := Lib.hid sq
        clear sq S1
        go_wp2_with (at_builtin; refine wpList_push_at _ rfl _ _ 36 2 rfl Try.underlying36 (.int .i64 0) 8 Try.info2 rfl w.heap.size _ _ _ rfl (S2.out.own (i := 1) rfl) _ rfl rfl (by decide) (by decide) hlo ?_)
        intro B1 d1 x1 own gr hat
        have own2 : x1.ownsRow w.heap.size 2 1 (.slice B1 7 d1) 7 (ints (grZ11.take 7)) := by
          rw [take_more (L := grZ11) (f := 6) (x := 7) rfl]
          exact own
        have sq := S2.out.push (i := 1) rfl own2 gr hat
        clear hlo
        have hlo := sq.lo
        have S3 := Lib.hid sq
        clear sq own own2 gr hat S2
        go_wp2_with (at_builtin; refine wpList_push_at _ rfl _ _ 36 2 rfl Try.underlying36 (.int .i64 0) 8 Try.info2 rfl w.heap.size _ _ _ rfl (S3.out.own (i := 2) rfl) _ rfl rfl (by decide) (by decide) hlo ?_)
        intro B2 d2 x2 own gr hat
        have own2 : x2.ownsRow w.heap.size 2 1 (.slice B2 7 d2) 7 (ints (grO11.take 7)) := by
          rw [take_more (L := grO11) (f := 6) (x := 5) rfl]
          exact own
        have sq := S3.out.push (i := 2) rfl own2 gr hat
        clear hlo
        have hlo := sq.lo
        have S4 := Lib.hid sq
        clear sq own own2 gr hat S3
        go_wp2_with (at_builtin; refine wpList_push_at _ rfl _ _ 36 2 rfl Try.underlying36 (.int .i64 0) 8 Try.info2 rfl w.heap.size _ _ _ rfl (S4.out.own (i := 3) rfl) _ rfl rfl (by decide) (by decide) hlo ?_)
        intro B3 d3 x3 own gr hat
        have own2 : x3.ownsRow w.heap.size 2 1 (.slice B3 7 d3) 7 (ints (grT11.take 7)) := by
          rw [take_more (L := grT11) (f := 6) (x := 3) rfl]
          exact own
        have sq := S4.out.push (i := 3) rfl own2 gr hat
        clear hlo
        have hlo := sq.lo
        have S5 := Lib.hid sq
        clear sq own own2 gr hat S4
        go_wp2
        go_roundw
        case rel => exact ⟨7, d1, d2, d3, B1, B2, B3, by decide, rfl, rfl, rfl, rfl, S5.out⟩
        case measure => simp [intOf]
      · have bz : bits .xor .i64 3 1 = 2 := by rfl
        go_wp2
        go_quiet (fail)
        have sq := S1.out.go (below_drewN (Below.refl _ _) nq)
        have hlo := sq.lo
        have S2 := Lib.hid sq
        clear sq S1
        go_wp2_with (at_builtin; refine wpList_push_at _ rfl _ _ 36 2 rfl Try.underlying36 (.int .i64 0) 8 Try.info2 rfl w.heap.size _ _ _ rfl (S2.out.own (i := 1) rfl) _ rfl rfl (by decide) (by decide) hlo ?_)
        intro B1 d1 x1 own gr hat
        have own2 : x1.ownsRow w.heap.size 2 1 (.slice B1 8 d1) 8 (ints (grZ11.take 8)) := by
          rw [take_more (L := grZ11) (f := 7) (x := 6) rfl]
          exact own
        have sq := S2.out.push (i := 1) rfl own2 gr hat
        clear hlo
        have hlo := sq.lo
        have S3 := Lib.hid sq
        clear sq own own2 gr hat S2
        go_wp2_with (at_builtin; refine wpList_push_at _ rfl _ _ 36 2 rfl Try.underlying36 (.int .i64 0) 8 Try.info2 rfl w.heap.size _ _ _ rfl (S3.out.own (i := 2) rfl) _ rfl rfl (by decide) (by decide) hlo ?_)
        intro B2 d2 x2 own gr hat
        have own2 : x2.ownsRow w.heap.size 2 1 (.slice B2 8 d2) 8 (ints (grO11.take 8)) := by
          rw [take_more (L := grO11) (f := 7) (x := 0) rfl]
          exact own
        have sq := S3.out.push (i := 2) rfl own2 gr hat
        clear hlo
        have hlo := sq.lo
        have S4 := Lib.hid sq
        clear sq own own2 gr hat S3
        go_wp2_with (at_builtin; refine wpList_push_at _ rfl _ _ 36 2 rfl Try.underlying36 (.int .i64 0) 8 Try.info2 rfl w.heap.size _ _ _ rfl (S4.out.own (i := 3) rfl) _ rfl rfl (by decide) (by decide) hlo ?_)
        intro B3 d3 x3 own gr hat
        have own2 : x3.ownsRow w.heap.size 2 1 (.slice B3 8 d3) 8 (ints (grT11.take 8)) := by
          rw [take_more (L := grT11) (f := 7) (x := 2) rfl]
          exact own
        have sq := S4.out.push (i := 3) rfl own2 gr hat
        clear hlo
        have hlo := sq.lo
        have S5 := Lib.hid sq
        clear sq own own2 gr hat S4
        go_wp2
        go_roundw
        case rel => exact ⟨8, d1, d2, d3, B1, B2, B3, by decide, rfl, rfl, rfl, rfl, S5.out⟩
        case measure => simp [intOf]
    · obtain rfl : f = 8 := by omega
      have st2 : St w wr [.own 2 A0 8 c0 (ints grZ11), .own 2 A1 8 c1 (ints grO11), .own 2 A2 8 c2 (ints grT11), .blk w.heap.size #[.slice none 0 0] 27] :=
        st.pick (fun i => if i = 3 then 0 else i + 1) (fun i hi => by simp at hi ⊢; split <;> omega) (fun i hi => by
          match i, hi with
          | 0, _ => rfl
          | 1, _ => rfl
          | 2, _ => rfl
          | 3, _ => rfl) (fun i j hi hj h => by simp at hi hj ⊢; split <;> split <;> omega)
      have st3 := st2.rowLit3 (Ps := [.blk w.heap.size #[.slice none 0 0] 27]) rfl rfl rfl 36
      have z0 := (st3.blk (i := 0) rfl).cell (i := 0) rfl
      have f0 := (st3.blk (i := 0) rfl).free 0
      have S3 := Lib.hid st3
      clear st st2 st3
      go_wp2
      have st4 := S3.out.blkSet (i := 0) rfl 0 (.slice (some ⟨wr.heap.size, 0, none⟩) 3 3)
      have y0 := (st4.blk (i := 0) rfl).cell (i := 0) rfl
      refine bodyPost_ret (v := .agg #[.slice (some ⟨wr.heap.size, 0, none⟩) 3 3]) (by simp [results, Try.results156, go_sem, y0]) rfl ⟨_, 3, [.slice A0 8 c0, .slice A1 8 c1, .slice A2 8 c2], rfl, ?_⟩
      exact st4.pick (fun i => i + 1) (fun i hi => by simp at hi ⊢; omega) (fun i hi => by match i, hi with | 0, _ => rfl) (fun i j _ _ h => by omega)
end Go.Proofs.Ytmgoaabeopnopaa
