/- spec.l05Grid at another pair (written by ggrd.py). -/
import Derived.Test.YtmgoaabeopnopaaGrd
namespace Go.Proofs.Ytmgoaabeopnopaa
open Go.RowKit

def grZ22 : List Int := [1, 0, 3, 2, 5, 4, 7, 6, 9, 8, 11, 10, 13, 12, 15, 14, 17, 16, 19, 18, 21, 20, 23, 22, 25, 24, 27, 26, 29, 28, 31, 30]
def grO22 : List Int := [7, 2, 1, 4, 3, 6, 5, 0, 15, 10, 9, 12, 11, 14, 13, 8, 23, 18, 17, 20, 19, 22, 21, 16, 31, 26, 25, 28, 27, 30, 29, 24]
def grT22 : List Int := [13, 12, 23, 22, 9, 8, 19, 18, 5, 4, 31, 30, 1, 0, 27, 26, 29, 28, 7, 6, 25, 24, 3, 2, 21, 20, 15, 14, 17, 16, 11, 10]
theorem gr22_ok : OkI 32 [grZ22, grO22, grT22] := by
  refine ⟨fun xs hx => ?_, by decide, by decide, by decide, by decide⟩
  simp only [List.mem_cons, List.not_mem_nil, or_false] at hx
  rcases hx with rfl | rfl | rfl <;> exact invB_ok (by decide +kernel)
set_option maxRecDepth 100000 in
set_option maxHeartbeats 6400000 in
theorem grid22 (w : World) :
    Calls Try.prog 156 #[.int .i64 2, .int .i64 2] w fun e w' => ∃ (A' : Option Addr) (c' : Nat) (vals : List Value), e = .returned (.agg #[.slice A' 3 c']) ∧ St w w' [.rows 2 36 A' 3 c' vals [grZ22, grO22, grT22]] := by
  have st0 := ((((St.start w).addBlk #[.slice none 0 0] 27).addMade 2).addMade 2).addMade 2
  simp at st0
  have S0 := Lib.hid (show St w _ (grA w.heap.size 0 0 0 0 (some ⟨w.heap.size + 1, 0, none⟩) (some ⟨w.heap.size + 1 + 1, 0, none⟩) (some ⟨w.heap.size + 1 + 1 + 1, 0, none⟩) grZ22 grO22 grT22) from st0)
  clear st0
  go_enter Try.func156, Try.ntmps156
  go_wp2
  go_loopw [5, 6, 7, 8] (fun u v x q wr => ∃ (f c0 c1 c2 : Nat) (A0 A1 A2 : Option Addr), f ≤ 32 ∧ u = .slice A0 f c0 ∧ v = .slice A1 f c1 ∧ x = .slice A2 f c2 ∧ q = .int .i64 f ∧ St w wr (grA w.heap.size f c0 c1 c2 A0 A1 A2 grZ22 grO22 grT22)) (fun _ _ _ q _ => 32 - (intOf q).toNat)
  case atStart => exact ⟨0, 0, 0, 0, _, _, _, Nat.zero_le _, rfl, rfl, rfl, rfl, S0.out⟩
  case round =>
    obtain ⟨f, c0, c1, c2, A0, A1, A2, hf, rfl, rfl, rfl, rfl, st⟩ := hrel
    clear S0
    by_cases hfN : f < 32
    · have hcases : f = 0 ∨ f = 1 ∨ f = 2 ∨ f = 3 ∨ f = 4 ∨ f = 5 ∨ f = 6 ∨ f = 7 ∨ f = 8 ∨ f = 9 ∨ f = 10 ∨ f = 11 ∨ f = 12 ∨ f = 13 ∨ f = 14 ∨ f = 15 ∨ f = 16 ∨ f = 17 ∨ f = 18 ∨ f = 19 ∨ f = 20 ∨ f = 21 ∨ f = 22 ∨ f = 23 ∨ f = 24 ∨ f = 25 ∨ f = 26 ∨ f = 27 ∨ f = 28 ∨ f = 29 ∨ f = 30 ∨ f = 31 := by omega
      have S1 := Lib.hid st
      clear st hf hfN
      rcases hcases with rfl | rfl | rfl | rfl | rfl | rfl | rfl | rfl | rfl | rfl | rfl | rfl | rfl | rfl | rfl | rfl | rfl | rfl | rfl | rfl | rfl | rfl | rfl | rfl | rfl | rfl | rfl | rfl | rfl | rfl | rfl | rfl
      · have bz : bits .xor .i64 4 1 = 5 := by rfl
        go_wp2
        go_quiet (fail)
        have sq := S1.out.go (below_drewN (Below.refl _ _) nq)
        have hlo := sq.lo
        have S2 := Lib.hid sq
        clear sq S1
        go_wp2_with (at_builtin; refine wpList_push_at _ rfl _ _ 36 2 rfl Try.underlying36 (.int .i64 0) 8 Try.info2 rfl w.heap.size _ _ _ rfl (S2.out.own (i := 1) rfl) _ rfl rfl (by decide) (by decide) hlo ?_)
        intro B1 d1 x1 own gr hat
        have own2 : x1.ownsRow w.heap.size 2 1 (.slice B1 1 d1) 1 (ints (grZ22.take 1)) := by
          rw [take_more (L := grZ22) (f := 0) (x := 1) rfl]
          exact own
        have sq := S2.out.push (i := 1) rfl own2 gr hat
        clear hlo
        have hlo := sq.lo
        have S3 := Lib.hid sq
        clear sq own own2 gr hat S2
        go_wp2_with (at_builtin; refine wpList_push_at _ rfl _ _ 36 2 rfl Try.underlying36 (.int .i64 0) 8 Try.info2 rfl w.heap.size _ _ _ rfl (S3.out.own (i := 2) rfl) _ rfl rfl (by decide) (by decide) hlo ?_)
        intro B2 d2 x2 own gr hat
        have own2 : x2.ownsRow w.heap.size 2 1 (.slice B2 1 d2) 1 (ints (grO22.take 1)) := by
          rw [take_more (L := grO22) (f := 0) (x := 7) rfl]
          exact own
        have sq := S3.out.push (i := 2) rfl own2 gr hat
        clear hlo
        have hlo := sq.lo
        have S4 := Lib.hid sq
        clear sq own own2 gr hat S3
        go_wp2_with (at_builtin; refine wpList_push_at _ rfl _ _ 36 2 rfl Try.underlying36 (.int .i64 0) 8 Try.info2 rfl w.heap.size _ _ _ rfl (S4.out.own (i := 3) rfl) _ rfl rfl (by decide) (by decide) hlo ?_)
        intro B3 d3 x3 own gr hat
        have own2 : x3.ownsRow w.heap.size 2 1 (.slice B3 1 d3) 1 (ints (grT22.take 1)) := by
          rw [take_more (L := grT22) (f := 0) (x := 13) rfl]
          exact own
        have sq := S4.out.push (i := 3) rfl own2 gr hat
        clear hlo
        have hlo := sq.lo
        have S5 := Lib.hid sq
        clear sq own own2 gr hat S4
        go_wp2
        go_roundw
        case rel => exact ⟨1, d1, d2, d3, B1, B2, B3, by decide, rfl, rfl, rfl, rfl, S5.out⟩
        case measure => simp [intOf]
      · have bz : bits .xor .i64 5 1 = 4 := by rfl
        go_wp2
        go_quiet (fail)
        have sq := S1.out.go (below_drewN (Below.refl _ _) nq)
        have hlo := sq.lo
        have S2 := Lib.hid sq
        clear sq S1
        go_wp2_with (at_builtin; refine wpList_push_at _ rfl _ _ 36 2 rfl Try.underlying36 (.int .i64 0) 8 Try.info2 rfl w.heap.size _ _ _ rfl (S2.out.own (i := 1) rfl) _ rfl rfl (by decide) (by decide) hlo ?_)
        intro B1 d1 x1 own gr hat
        have own2 : x1.ownsRow w.heap.size 2 1 (.slice B1 2 d1) 2 (ints (grZ22.take 2)) := by
          rw [take_more (L := grZ22) (f := 1) (x := 0) rfl]
          exact own
        have sq := S2.out.push (i := 1) rfl own2 gr hat
        clear hlo
        have hlo := sq.lo
        have S3 := Lib.hid sq
        clear sq own own2 gr hat S2
        go_wp2_with (at_builtin; refine wpList_push_at _ rfl _ _ 36 2 rfl Try.underlying36 (.int .i64 0) 8 Try.info2 rfl w.heap.size _ _ _ rfl (S3.out.own (i := 2) rfl) _ rfl rfl (by decide) (by decide) hlo ?_)
        intro B2 d2 x2 own gr hat
        have own2 : x2.ownsRow w.heap.size 2 1 (.slice B2 2 d2) 2 (ints (grO22.take 2)) := by
          rw [take_more (L := grO22) (f := 1) (x := 2) rfl]
          exact own
        have sq := S3.out.push (i := 2) rfl own2 gr hat
        clear hlo
        have hlo := sq.lo
        have S4 := Lib.hid sq
        clear sq own own2 gr hat S3
        go_wp2_with (at_builtin; refine wpList_push_at _ rfl _ _ 36 2 rfl Try.underlying36 (.int .i64 0) 8 Try.info2 rfl w.heap.size _ _ _ rfl (S4.out.own (i := 3) rfl) _ rfl rfl (by decide) (by decide) hlo ?_)
        intro B3 d3 x3 own gr hat
        have own2 : x3.ownsRow w.heap.size 2 1 (.slice B3 2 d3) 2 (ints (grT22.take 2)) := by
          rw [take_more (L := grT22) (f := 1) (x := 12) rfl]
          exact own
        have sq := S4.out.push (i := 3) rfl own2 gr hat
        clear hlo
        have hlo := sq.lo
        have S5 := Lib.hid sq
        clear sq own own2 gr hat S4
        go_wp2
        go_roundw
        case rel => exact ⟨2, d1, d2, d3, B1, B2, B3, by decide, rfl, rfl, rfl, rfl, S5.out⟩
        case measure => simp [intOf]
      · have bz : bits .xor .i64 6 1 = 7 := by rfl
        go_wp2
        go_quiet (fail)
        have sq := S1.out.go (below_drewN (Below.refl _ _) nq)
        have hlo := sq.lo
        have S2 := Lib.hid sq
        clear sq S1
        go_wp2_with (at_builtin; refine wpList_push_at _ rfl _ _ 36 2 rfl Try.underlying36 (.int .i64 0) 8 Try.info2 rfl w.heap.size _ _ _ rfl (S2.out.own (i := 1) rfl) _ rfl rfl (by decide) (by decide) hlo ?_)
        intro B1 d1 x1 own gr hat
        have own2 : x1.ownsRow w.heap.size 2 1 (.slice B1 3 d1) 3 (ints (grZ22.take 3)) := by
          rw [take_more (L := grZ22) (f := 2) (x := 3) rfl]
          exact own
        have sq := S2.out.push (i := 1) rfl own2 gr hat
        clear hlo
        have hlo := sq.lo
        have S3 := Lib.hid sq
        clear sq own own2 gr hat S2
        go_wp2_with (at_builtin; refine wpList_push_at _ rfl _ _ 36 2 rfl Try.underlying36 (.int .i64 0) 8 Try.info2 rfl w.heap.size _ _ _ rfl (S3.out.own (i := 2) rfl) _ rfl rfl (by decide) (by decide) hlo ?_)
        intro B2 d2 x2 own gr hat
        have own2 : x2.ownsRow w.heap.size 2 1 (.slice B2 3 d2) 3 (ints (grO22.take 3)) := by
          rw [take_more (L := grO22) (f := 2) (x := 1) rfl]
          exact own
        have sq := S3.out.push (i := 2) rfl own2 gr hat
        clear hlo
        have hlo := sq.lo
        have S4 := Lib.hid sq
        clear sq own own2 gr hat S3
        go_wp2_with (at_builtin; refine wpList_push_at _ rfl _ _ 36 2 rfl Try.underlying36 (.int .i64 0) 8 Try.info2 rfl w.heap.size _ _ _ rfl (S4.out.own (i := 3) rfl) _ rfl rfl (by decide) (by decide) hlo ?_)
        intro B3 d3 x3 own gr hat
        have own2 : x3.ownsRow w.heap.size 2 1 (.slice B3 3 d3) 3 (ints (grT22.take 3)) := by
          rw [take_more (L := grT22) (f := 2) (x := 23) rfl]
          exact own
        have sq := S4.out.push (i := 3) rfl own2 gr hat
        clear hlo
        have hlo := sq.lo
        have S5 := Lib.hid sq
        clear sq own own2 gr hat S4
        go_wp2
        go_roundw
        case rel => exact ⟨3, d1, d2, d3, B1, B2, B3, by decide, rfl, rfl, rfl, rfl, S5.out⟩
        case measure => simp [intOf]
      · have bz : bits .xor .i64 7 1 = 6 := by rfl
        go_wp2
        go_quiet (fail)
        have sq := S1.out.go (below_drewN (Below.refl _ _) nq)
        have hlo := sq.lo
        have S2 := Lib.hid sq
        clear sq S1
        go_wp2_with (at_builtin; refine wpList_push_at _ rfl _ _ 36 2 rfl Try.underlying36 (.int .i64 0) 8 Try.info2 rfl w.heap.size _ _ _ rfl (S2.out.own (i := 1) rfl) _ rfl rfl (by decide) (by decide) hlo ?_)
        intro B1 d1 x1 own gr hat
        have own2 : x1.ownsRow w.heap.size 2 1 (.slice B1 4 d1) 4 (ints (grZ22.take 4)) := by
          rw [take_more (L := grZ22) (f := 3) (x := 2) rfl]
          exact own
        have sq := S2.out.push (i := 1) rfl own2 gr hat
        clear hlo
        have hlo := sq.lo
        have S3 := Lib.hid sq
        clear sq own own2 gr hat S2
        go_wp2_with (at_builtin; refine wpList_push_at _ rfl _ _ 36 2 rfl Try.underlying36 (.int .i64 0) 8 Try.info2 rfl w.heap.size _ _ _ rfl (S3.out.own (i := 2) rfl) _ rfl rfl (by decide) (by decide) hlo ?_)
        intro B2 d2 x2 own gr hat
        have own2 : x2.ownsRow w.heap.size 2 1 (.slice B2 4 d2) 4 (ints (grO22.take 4)) := by
          rw [take_more (L := grO22) (f := 3) (x := 4) rfl]
          exact own
        have sq := S3.out.push (i := 2) rfl own2 gr hat
        clear hlo
        have hlo := sq.lo
        have S4 := Lib.hid sq
        clear sq own own2 gr hat S3
        go_wp2_with (at_builtin; refine wpList_push_at _ rfl _ _ 36 2 rfl Try.underlying36 (.int .i64 0) 8 Try.info2 rfl w.heap.size _ _ _ rfl (S4.out.own (i := 3) rfl) _ rfl rfl (by decide) (by decide) hlo ?_)
        intro B3 d3 x3 own gr hat
        have own2 : x3.ownsRow w.heap.size 2 1 (.slice B3 4 d3) 4 (ints (grT22.take 4)) := by
          rw [take_more (L := grT22) (f := 3) (x := 22) rfl]
          exact own
        have sq := S4.out.push (i := 3) rfl own2 gr hat
        clear hlo
        have hlo := sq.lo
        have S5 := Lib.hid sq
        clear sq own own2 gr hat S4
        go_wp2
        go_roundw
        case rel => exact ⟨4, d1, d2, d3, B1, B2, B3, by decide, rfl, rfl, rfl, rfl, S5.out⟩
        case measure => simp [intOf]
      · have bz : bits .xor .i64 0 1 = 1 := by rfl
        go_wp2
        go_quiet (fail)
        have sq := S1.out.go (below_drewN (Below.refl _ _) nq)
        have hlo := sq.lo
        have S2 := Lib.hid sq
        clear sq S1
        go_wp2_with (at_builtin; refine wpList_push_at _ rfl _ _ 36 2 rfl Try.underlying36 (.int .i64 0) 8 Try.info2 rfl w.heap.size _ _ _ rfl (S2.out.own (i := 1) rfl) _ rfl rfl (by decide) (by decide) hlo ?_)
        intro B1 d1 x1 own gr hat
        have own2 : x1.ownsRow w.heap.size 2 1 (.slice B1 5 d1) 5 (ints (grZ22.take 5)) := by
          rw [take_more (L := grZ22) (f := 4) (x := 5) rfl]
          exact own
        have sq := S2.out.push (i := 1) rfl own2 gr hat
        clear hlo
        have hlo := sq.lo
        have S3 := Lib.hid sq
        clear sq own own2 gr hat S2
        go_wp2_with (at_builtin; refine wpList_push_at _ rfl _ _ 36 2 rfl Try.underlying36 (.int .i64 0) 8 Try.info2 rfl w.heap.size _ _ _ rfl (S3.out.own (i := 2) rfl) _ rfl rfl (by decide) (by decide) hlo ?_)
        intro B2 d2 x2 own gr hat
        have own2 : x2.ownsRow w.heap.size 2 1 (.slice B2 5 d2) 5 (ints (grO22.take 5)) := by
          rw [take_more (L := grO22) (f := 4) (x := 3) rfl]
          exact own
        have sq := S3.out.push (i := 2) rfl own2 gr hat
        clear hlo
        have hlo := sq.lo
        have S4 := Lib.hid sq
        clear sq own own2 gr hat S3
        go_wp2_with (at_builtin; refine wpList_push_at _ rfl _ _ 36 2 rfl Try.underlying36 (.int .i64 0) 8 Try.info2 rfl w.heap.size _ _ _ rfl (S4.out.own (i := 3) rfl) _ rfl rfl (by decide) (by decide) hlo ?_)
        intro B3 d3 x3 own gr hat
        have own2 : x3.ownsRow w.heap.size 2 1 (.slice B3 5 d3) 5 (ints (grT22.take 5)) := by
          rw [take_more (L := grT22) (f := 4) (x := 9) rfl]
          exact own
        have sq := S4.out.push (i := 3) rfl own2 gr hat
        clear hlo
        have hlo := sq.lo
        have S5 := Lib.hid sq
        clear sq own own2 gr hat S4
        go_wp2
        go_roundw
        case rel => exact ⟨5, d1, d2, d3, B1, B2, B3, by decide, rfl, rfl, rfl, rfl, S5.out⟩
        case measure => simp [intOf]
      · have bz : bits .xor .i64 1 1 = 0 := by rfl
        go_wp2
        go_quiet (fail)
        have sq := S1.out.go (below_drewN (Below.refl _ _) nq)
        have hlo := sq.lo
        have S2 := Lib.hid sq
        clear sq S1
        go_wp2_with (at_builtin; refine wpList_push_at _ rfl _ _ 36 2 rfl Try.underlying36 (.int .i64 0) 8 Try.info2 rfl w.heap.size _ _ _ rfl (S2.out.own (i := 1) rfl) _ rfl rfl (by decide) (by decide) hlo ?_)
        intro B1 d1 x1 own gr hat
        have own2 : x1.ownsRow w.heap.size 2 1 (.slice B1 6 d1) 6 (ints (grZ22.take 6)) := by
          rw [take_more (L := grZ22) (f := 5) (x := 4) rfl]
          exact own
        have sq := S2.out.push (i := 1) rfl own2 gr hat
        clear hlo
        have hlo := sq.lo
        have S3 := Lib.hid sq
        clear sq own own2 gr hat S2
        go_wp2_with (at_builtin; refine wpList_push_at _ rfl _ _ 36 2 rfl Try.underlying36 (.int .i64 0) 8 Try.info2 rfl w.heap.size _ _ _ rfl (S3.out.own (i := 2) rfl) _ rfl rfl (by decide) (by decide) hlo ?_)
        intro B2 d2 x2 own gr hat
        have own2 : x2.ownsRow w.heap.size 2 1 (.slice B2 6 d2) 6 (ints (grO22.take 6)) := by
          rw [take_more (L := grO22) (f := 5) (x := 6) rfl]
          exact own
        have sq := S3.out.push (i := 2) rfl own2 gr hat
        clear hlo
        have hlo := sq.lo
        have S4 := Lib.hid sq
        clear sq own own2 gr hat S3
        go_wp2_with (at_builtin; refine wpList_push_at _ rfl _ _ 36 2 rfl Try.underlying36 (.int .i64 0) 8 Try.info2 rfl w.heap.size _ _ _ rfl (S4.out.own (i := 3) rfl) _ rfl rfl (by decide) (by decide) hlo ?_)
        intro B3 d3 x3 own gr hat
        have own2 : x3.ownsRow w.heap.size 2 1 (.slice B3 6 d3) 6 (ints (grT22.take 6)) := by
          rw [take_more (L := grT22) (f := 5) (x := 8) rfl]
          exact own
        have sq := S4.out.push (i := 3) rfl own2 gr hat
        clear hlo
        have hlo := sq.lo
        have S5 := Lib.hid sq
        clear sq own own2 gr hat S4
        go_wp2
        go_roundw
        case rel => exact ⟨6, d1, d2, d3, B1, B2, B3, by decide, rfl, rfl, rfl, rfl, S5.out⟩
        case measure => simp [intOf]
      · have bz : bits .xor .i64 2 1 = 3 := by rfl
        go_wp2
        go_quiet (fail)
        have sq := S1.out.go (below_drewN (Below.refl _ _) nq)
        have hlo := sq.lo
        have S2 := Lib.hid sq
        clear sq S1
        go_wp2_with (at_builtin; refine wpList_push_at _ rfl _ _ 36 2 rfl Try.underlying36 (.int .i64 0) 8 Try.info2 rfl w.heap.size _ _ _ rfl (S2.out.own (i := 1) rfl) _ rfl rfl (by decide) (by decide) hlo ?_)
        intro B1 d1 x1 own gr hat
        have own2 : x1.ownsRow w.heap.size 2 1 (.slice B1 7 d1) 7 (ints (grZ22.take 7)) := by
          rw [take_more (L := grZ22) (f := 6) (x := 7) rfl]
          exact own
        have sq := S2.out.push (i := 1) rfl own2 gr hat
        clear hlo
        have hlo := sq.lo
        have S3 := Lib.hid sq
        clear sq own own2 gr hat S2
        go_wp2_with (at_builtin; refine wpList_push_at _ rfl _ _ 36 2 rfl Try.underlying36 (.int .i64 0) 8 Try.info2 rfl w.heap.size _ _ _ rfl (S3.out.own (i := 2) rfl) _ rfl rfl (by decide) (by decide) hlo ?_)
        intro B2 d2 x2 own gr hat
        have own2 : x2.ownsRow w.heap.size 2 1 (.slice B2 7 d2) 7 (ints (grO22.take 7)) := by
          rw [take_more (L := grO22) (f := 6) (x := 5) rfl]
          exact own
        have sq := S3.out.push (i := 2) rfl own2 gr hat
        clear hlo
        have hlo := sq.lo
        have S4 := Lib.hid sq
        clear sq own own2 gr hat S3
        go_wp2_with (at_builtin; refine wpList_push_at _ rfl _ _ 36 2 rfl Try.underlying36 (.int .i64 0) 8 Try.info2 rfl w.heap.size _ _ _ rfl (S4.out.own (i := 3) rfl) _ rfl rfl (by decide) (by decide) hlo ?_)
        intro B3 d3 x3 own gr hat
        have own2 : x3.ownsRow w.heap.size 2 1 (.slice B3 7 d3) 7 (ints (grT22.take 7)) := by
          rw [take_more (L := grT22) (f := 6) (x := 19) rfl]
          exact own
        have sq := S4.out.push (i := 3) rfl own2 gr hat
        clear hlo
        have hlo := sq.lo
        have S5 := Lib.hid sq
        clear sq own own2 gr hat S4
        go_wp2
        go_roundw
        case rel => exact ⟨7, d1, d2, d3, B1, B2, B3, by decide, rfl, rfl, rfl, rfl, S5.out⟩
        case measure => simp [intOf]
      · have bz : bits .xor .i64 3 1 = 2 := by rfl
        go_wp2
        go_quiet (fail)
        have sq := S1.out.go (below_drewN (Below.refl _ _) nq)
        have hlo := sq.lo
        have S2 := Lib.hid sq
        clear sq S1
        go_wp2_with (at_builtin; refine wpList_push_at _ rfl _ _ 36 2 rfl Try.underlying36 (.int .i64 0) 8 Try.info2 rfl w.heap.size _ _ _ rfl (S2.out.own (i := 1) rfl) _ rfl rfl (by decide) (by decide) hlo ?_)
        intro B1 d1 x1 own gr hat
        have own2 : x1.ownsRow w.heap.size 2 1 (.slice B1 8 d1) 8 (ints (grZ22.take 8)) := by
          rw [take_more (L := grZ22) (f := 7) (x := 6) rfl]
          exact own
        have sq := S2.out.push (i := 1) rfl own2 gr hat
        clear hlo
        have hlo := sq.lo
        have S3 := Lib.hid sq
        clear sq own own2 gr hat S2
        go_wp2_with (at_builtin; refine wpList_push_at _ rfl _ _ 36 2 rfl Try.underlying36 (.int .i64 0) 8 Try.info2 rfl w.heap.size _ _ _ rfl (S3.out.own (i := 2) rfl) _ rfl rfl (by decide) (by decide) hlo ?_)
        intro B2 d2 x2 own gr hat
        have own2 : x2.ownsRow w.heap.size 2 1 (.slice B2 8 d2) 8 (ints (grO22.take 8)) := by
          rw [take_more (L := grO22) (f := 7) (x := 0) rfl]
          exact own
        have sq := S3.out.push (i := 2) rfl own2 gr hat
        clear hlo
        have hlo := sq.lo
        have S4 := Lib.hid sq
        clear sq own own2 gr hat S3
        go_wp2_with (at_builtin; refine wpList_push_at _ rfl _ _ 36 2 rfl Try.underlying36 (.int .i64 0) 8 Try.info2 rfl w.heap.size _ _ _ rfl (S4.out.own (i := 3) rfl) _ rfl rfl (by decide) (by decide) hlo ?_)
        intro B3 d3 x3 own gr hat
        have own2 : x3.ownsRow w.heap.size 2 1 (.slice B3 8 d3) 8 (ints (grT22.take 8)) := by
          rw [take_more (L := grT22) (f := 7) (x := 18) rfl]
          exact own
        have sq := S4.out.push (i := 3) rfl own2 gr hat
        clear hlo
        have hlo := sq.lo
        have S5 := Lib.hid sq
        clear sq own own2 gr hat S4
        go_wp2
        go_roundw
        case rel => exact ⟨8, d1, d2, d3, B1, B2, B3, by decide, rfl, rfl, rfl, rfl, S5.out⟩
        case measure => simp [intOf]
      · have bz : bits .xor .i64 4 1 = 5 := by rfl
        go_wp2
        go_quiet (fail)
        have sq := S1.out.go (below_drewN (Below.refl _ _) nq)
        have hlo := sq.lo
        have S2 := Lib.hid sq
        clear sq S1
        go_wp2_with (at_builtin; refine wpList_push_at _ rfl _ _ 36 2 rfl Try.underlying36 (.int .i64 0) 8 Try.info2 rfl w.heap.size _ _ _ rfl (S2.out.own (i := 1) rfl) _ rfl rfl (by decide) (by decide) hlo ?_)
        intro B1 d1 x1 own gr hat
        have own2 : x1.ownsRow w.heap.size 2 1 (.slice B1 9 d1) 9 (ints (grZ22.take 9)) := by
          rw [take_more (L := grZ22) (f := 8) (x := 9) rfl]
          exact own
        have sq := S2.out.push (i := 1) rfl own2 gr hat
        clear hlo
        have hlo := sq.lo
        have S3 := Lib.hid sq
        clear sq own own2 gr hat S2
        go_wp2_with (at_builtin; refine wpList_push_at _ rfl _ _ 36 2 rfl Try.underlying36 (.int .i64 0) 8 Try.info2 rfl w.heap.size _ _ _ rfl (S3.out.own (i := 2) rfl) _ rfl rfl (by decide) (by decide) hlo ?_)
        intro B2 d2 x2 own gr hat
        have own2 : x2.ownsRow w.heap.size 2 1 (.slice B2 9 d2) 9 (ints (grO22.take 9)) := by
          rw [take_more (L := grO22) (f := 8) (x := 15) rfl]
          exact own
        have sq := S3.out.push (i := 2) rfl own2 gr hat
        clear hlo
        have hlo := sq.lo
        have S4 := Lib.hid sq
        clear sq own own2 gr hat S3
        go_wp2_with (at_builtin; refine wpList_push_at _ rfl _ _ 36 2 rfl Try.underlying36 (.int .i64 0) 8 Try.info2 rfl w.heap.size _ _ _ rfl (S4.out.own (i := 3) rfl) _ rfl rfl (by decide) (by decide) hlo ?_)
        intro B3 d3 x3 own gr hat
        have own2 : x3.ownsRow w.heap.size 2 1 (.slice B3 9 d3) 9 (ints (grT22.take 9)) := by
          rw [take_more (L := grT22) (f := 8) (x := 5) rfl]
          exact own
        have sq := S4.out.push (i := 3) rfl own2 gr hat
        clear hlo
        have hlo := sq.lo
        have S5 := Lib.hid sq
        clear sq own own2 gr hat S4
        go_wp2
        go_roundw
        case rel => exact ⟨9, d1, d2, d3, B1, B2, B3, by decide, rfl, rfl, rfl, rfl, S5.out⟩
        case measure => simp [intOf]
      · have bz : bits .xor .i64 5 1 = 4 := by rfl
        go_wp2
        go_quiet (fail)
        have sq := S1.out.go (below_drewN (Below.refl _ _) nq)
        have hlo := sq.lo
        have S2 := Lib.hid sq
        clear sq S1
        go_wp2_with (at_builtin; refine wpList_push_at _ rfl _ _ 36 2 rfl Try.underlying36 (.int .i64 0) 8 Try.info2 rfl w.heap.size _ _ _ rfl (S2.out.own (i := 1) rfl) _ rfl rfl (by decide) (by decide) hlo ?_)
        intro B1 d1 x1 own gr hat
        have own2 : x1.ownsRow w.heap.size 2 1 (.slice B1 10 d1) 10 (ints (grZ22.take 10)) := by
          rw [take_more (L := grZ22) (f := 9) (x := 8) rfl]
          exact own
        have sq := S2.out.push (i := 1) rfl own2 gr hat
        clear hlo
        have hlo := sq.lo
        have S3 := Lib.hid sq
        clear sq own own2 gr hat S2
        go_wp2_with (at_builtin; refine wpList_push_at _ rfl _ _ 36 2 rfl Try.underlying36 (.int .i64 0) 8 Try.info2 rfl w.heap.size _ _ _ rfl (S3.out.own (i := 2) rfl) _ rfl rfl (by decide) (by decide) hlo ?_)
        intro B2 d2 x2 own gr hat
        have own2 : x2.ownsRow w.heap.size 2 1 (.slice B2 10 d2) 10 (ints (grO22.take 10)) := by
          rw [take_more (L := grO22) (f := 9) (x := 10) rfl]
          exact own
        have sq := S3.out.push (i := 2) rfl own2 gr hat
        clear hlo
        have hlo := sq.lo
        have S4 := Lib.hid sq
        clear sq own own2 gr hat S3
        go_wp2_with (at_builtin; refine wpList_push_at _ rfl _ _ 36 2 rfl Try.underlying36 (.int .i64 0) 8 Try.info2 rfl w.heap.size _ _ _ rfl (S4.out.own (i := 3) rfl) _ rfl rfl (by decide) (by decide) hlo ?_)
        intro B3 d3 x3 own gr hat
        have own2 : x3.ownsRow w.heap.size 2 1 (.slice B3 10 d3) 10 (ints (grT22.take 10)) := by
          rw [take_more (L := grT22) (f := 9) (x := 4) rfl]
          exact own
        have sq := S4.out.push (i := 3) rfl own2 gr hat
        clear hlo
        have hlo := sq.lo
        have S5 := Lib.hid sq
        clear sq own own2 gr hat S4
        go_wp2
        go_roundw
        case rel => exact ⟨10, d1, d2, d3, B1, B2, B3, by decide, rfl, rfl, rfl, rfl, S5.out⟩
        case measure => simp [intOf]
      · have bz : bits .xor .i64 6 1 = 7 := by rfl
        go_wp2
        go_quiet (fail)
        have sq := S1.out.go (below_drewN (Below.refl _ _) nq)
        have hlo := sq.lo
        have S2 := Lib.hid sq
        clear sq S1
        go_wp2_with (at_builtin; refine wpList_push_at _ rfl _ _ 36 2 rfl Try.underlying36 (.int .i64 0) 8 Try.info2 rfl w.heap.size _ _ _ rfl (S2.out.own (i := 1) rfl) _ rfl rfl (by decide) (by decide) hlo ?_)
        intro B1 d1 x1 own gr hat
        have own2 : x1.ownsRow w.heap.size 2 1 (.slice B1 11 d1) 11 (ints (grZ22.take 11)) := by
          rw [take_more (L := grZ22) (f := 10) (x := 11) rfl]
          exact own
        have sq := S2.out.push (i := 1) rfl own2 gr hat
        clear hlo
        have hlo := sq.lo
        have S3 := Lib.hid sq
        clear sq own own2 gr hat S2
        go_wp2_with (at_builtin; refine wpList_push_at _ rfl _ _ 36 2 rfl Try.underlying36 (.int .i64 0) 8 Try.info2 rfl w.heap.size _ _ _ rfl (S3.out.own (i := 2) rfl) _ rfl rfl (by decide) (by decide) hlo ?_)
        intro B2 d2 x2 own gr hat
        have own2 : x2.ownsRow w.heap.size 2 1 (.slice B2 11 d2) 11 (ints (grO22.take 11)) := by
          rw [take_more (L := grO22) (f := 10) (x := 9) rfl]
          exact own
        have sq := S3.out.push (i := 2) rfl own2 gr hat
        clear hlo
        have hlo := sq.lo
        have S4 := Lib.hid sq
        clear sq own own2 gr hat S3
        go_wp2_with (at_builtin; refine wpList_push_at _ rfl _ _ 36 2 rfl Try.underlying36 (.int .i64 0) 8 Try.info2 rfl w.heap.size _ _ _ rfl (S4.out.own (i := 3) rfl) _ rfl rfl (by decide) (by decide) hlo ?_)
        intro B3 d3 x3 own gr hat
        have own2 : x3.ownsRow w.heap.size 2 1 (.slice B3 11 d3) 11 (ints (grT22.take 11)) := by
          rw [take_more (L := grT22) (f := 10) (x := 31) rfl]
          exact own
        have sq := S4.out.push (i := 3) rfl own2 gr hat
        clear hlo
        have hlo := sq.lo
        have S5 := Lib.hid sq
        clear sq own own2 gr hat S4
        go_wp2
        go_roundw
        case rel => exact ⟨11, d1, d2, d3, B1, B2, B3, by decide, rfl, rfl, rfl, rfl, S5.out⟩
        case measure => simp [intOf]
      · have bz : bits .xor .i64 7 1 = 6 := by rfl
        go_wp2
        go_quiet (fail)
        have sq := S1.out.go (below_drewN (Below.refl _ _) nq)
        have hlo := sq.lo
        have S2 := Lib.hid sq
        clear sq S1
        go_wp2_with (at_builtin; refine wpList_push_at _ rfl _ _ 36 2 rfl Try.underlying36 (.int .i64 0) 8 Try.info2 rfl w.heap.size _ _ _ rfl (S2.out.own (i := 1) rfl) _ rfl rfl (by decide) (by decide) hlo ?_)
        intro B1 d1 x1 own gr hat
        have own2 : x1.ownsRow w.heap.size 2 1 (.slice B1 12 d1) 12 (ints (grZ22.take 12)) := by
          rw [take_more (L := grZ22) (f := 11) (x := 10) rfl]
          exact own
        have sq := S2.out.push (i := 1) rfl own2 gr hat
        clear hlo
        have hlo := sq.lo
        have S3 := Lib.hid sq
        clear sq own own2 gr hat S2
        go_wp2_with (at_builtin; refine wpList_push_at _ rfl _ _ 36 2 rfl Try.underlying36 (.int .i64 0) 8 Try.info2 rfl w.heap.size _ _ _ rfl (S3.out.own (i := 2) rfl) _ rfl rfl (by decide) (by decide) hlo ?_)
        intro B2 d2 x2 own gr hat
        have own2 : x2.ownsRow w.heap.size 2 1 (.slice B2 12 d2) 12 (ints (grO22.take 12)) := by
          rw [take_more (L := grO22) (f := 11) (x := 12) rfl]
          exact own
        have sq := S3.out.push (i := 2) rfl own2 gr hat
        clear hlo
        have hlo := sq.lo
        have S4 := Lib.hid sq
        clear sq own own2 gr hat S3
        go_wp2_with (at_builtin; refine wpList_push_at _ rfl _ _ 36 2 rfl Try.underlying36 (.int .i64 0) 8 Try.info2 rfl w.heap.size _ _ _ rfl (S4.out.own (i := 3) rfl) _ rfl rfl (by decide) (by decide) hlo ?_)
        intro B3 d3 x3 own gr hat
        have own2 : x3.ownsRow w.heap.size 2 1 (.slice B3 12 d3) 12 (ints (grT22.take 12)) := by
          rw [take_more (L := grT22) (f := 11) (x := 30) rfl]
          exact own
        have sq := S4.out.push (i := 3) rfl own2 gr hat
        clear hlo
        have hlo := sq.lo
        have S5 := Lib.hid sq
        clear sq own own2 gr hat S4
        go_wp2
        go_roundw
        case rel => exact ⟨12, d1, d2, d3, B1, B2, B3, by decide, rfl, rfl, rfl, rfl, S5.out⟩
        case measure => simp [intOf]
      · have bz : bits .xor .i64 0 1 = 1 := by rfl
        go_wp2
        go_quiet (fail)
        have sq := S1.out.go (below_drewN (Below.refl _ _) nq)
        have hlo := sq.lo
        have S2 := Lib.hid sq
        clear sq S1
        go_wp2_with (at_builtin; refine wpList_push_at _ rfl _ _ 36 2 rfl Try.underlying36 (.int .i64 0) 8 Try.info2 rfl w.heap.size _ _ _ rfl (S2.out.own (i := 1) rfl) _ rfl rfl (by decide) (by decide) hlo ?_)
        intro B1 d1 x1 own gr hat
        have own2 : x1.ownsRow w.heap.size 2 1 (.slice B1 13 d1) 13 (ints (grZ22.take 13)) := by
          rw [take_more (L := grZ22) (f := 12) (x := 13) rfl]
          exact own
        have sq := S2.out.push (i := 1) rfl own2 gr hat
        clear hlo
        have hlo := sq.lo
        have S3 := Lib.hid sq
        clear sq own own2 gr hat S2
        go_wp2_with (at_builtin; refine wpList_push_at _ rfl _ _ 36 2 rfl Try.underlying36 (.int .i64 0) 8 Try.info2 rfl w.heap.size _ _ _ rfl (S3.out.own (i := 2) rfl) _ rfl rfl (by decide) (by decide) hlo ?_)
        intro B2 d2 x2 own gr hat
        have own2 : x2.ownsRow w.heap.size 2 1 (.slice B2 13 d2) 13 (ints (grO22.take 13)) := by
          rw [take_more (L := grO22) (f := 12) (x := 11) rfl]
          exact own
        have sq := S3.out.push (i := 2) rfl own2 gr hat
        clear hlo
        have hlo := sq.lo
        have S4 := Lib.hid sq
        clear sq own own2 gr hat S3
        go_wp2_with (at_builtin; refine wpList_push_at _ rfl _ _ 36 2 rfl Try.underlying36 (.int .i64 0) 8 Try.info2 rfl w.heap.size _ _ _ rfl (S4.out.own (i := 3) rfl) _ rfl rfl (by decide) (by decide) hlo ?_)
        intro B3 d3 x3 own gr hat
        have own2 : x3.ownsRow w.heap.size 2 1 (.slice B3 13 d3) 13 (ints (grT22.take 13)) := by
          rw [take_more (L := grT22) (f := 12) (x := 1) rfl]
          exact own
        have sq := S4.out.push (i := 3) rfl own2 gr hat
        clear hlo
        have hlo := sq.lo
        have S5 := Lib.hid sq
        clear sq own own2 gr hat S4
        go_wp2
        go_roundw
        case rel => exact ⟨13, d1, d2, d3, B1, B2, B3, by decide, rfl, rfl, rfl, rfl, S5.out⟩
        case measure => simp [intOf]
      · have bz : bits .xor .i64 1 1 = 0 := by rfl
        go_wp2
        go_quiet (fail)
        have sq := S1.out.go (below_drewN (Below.refl _ _) nq)
        have hlo := sq.lo
        have S2 := Lib.hid sq
        clear sq S1
        go_wp2_with (at_builtin; refine wpList_push_at _ rfl _ _ 36 2 rfl Try.underlying36 (.int .i64 0) 8 Try.info2 rfl w.heap.size _ _ _ rfl (S2.out.own (i := 1) rfl) _ rfl rfl (by decide) (by decide) hlo ?_)
        intro B1 d1 x1 own gr hat
        have own2 : x1.ownsRow w.heap.size 2 1 (.slice B1 14 d1) 14 (ints (grZ22.take 14)) := by
          rw [take_more (L := grZ22) (f := 13) (x := 12) rfl]
          exact own
        have sq := S2.out.push (i := 1) rfl own2 gr hat
        clear hlo
        have hlo := sq.lo
        have S3 := Lib.hid sq
        clear sq own own2 gr hat S2
        go_wp2_with (at_builtin; refine wpList_push_at _ rfl _ _ 36 2 rfl Try.underlying36 (.int .i64 0) 8 Try.info2 rfl w.heap.size _ _ _ rfl (S3.out.own (i := 2) rfl) _ rfl rfl (by decide) (by decide) hlo ?_)
        intro B2 d2 x2 own gr hat
        have own2 : x2.ownsRow w.heap.size 2 1 (.slice B2 14 d2) 14 (ints (grO22.take 14)) := by
          rw [take_more (L := grO22) (f := 13) (x := 14) rfl]
          exact own
        have sq := S3.out.push (i := 2) rfl own2 gr hat
        clear hlo
        have hlo := sq.lo
        have S4 := Lib.hid sq
        clear sq own own2 gr hat S3
        go_wp2_with (at_builtin; refine wpList_push_at _ rfl _ _ 36 2 rfl Try.underlying36 (.int .i64 0) 8 Try.info2 rfl w.heap.size _ _ _ rfl (S4.out.own (i := 3) rfl) _ rfl rfl (by decide) (by decide) hlo ?_)
        intro B3 d3 x3 own gr hat
        have own2 : x3.ownsRow w.heap.size 2 1 (.slice B3 14 d3) 14 (ints (grT22.take 14)) := by
          rw [take_more (L := grT22) (f := 13) (x := 0) rfl]
          exact own
        have sq := S4.out.push (i := 3) rfl own2 gr hat
        clear hlo
        have hlo := sq.lo
        have S5 := Lib.hid sq
        clear sq own own2 gr hat S4
        go_wp2
        go_roundw
        case rel => exact ⟨14, d1, d2, d3, B1, B2, B3, by decide, rfl, rfl, rfl, rfl, S5.out⟩
        case measure => simp [intOf]
      · have bz : bits .xor .i64 2 1 = 3 := by rfl
        go_wp2
        go_quiet (fail)
        have sq := S1.out.go (below_drewN (Below.refl _ _) nq)
        have hlo := sq.lo
        have S2 := Lib.hid sq
        clear sq S1
        go_wp2_with (at_builtin; refine wpList_push_at _ rfl _ _ 36 2 rfl Try.underlying36 (.int .i64 0) 8 Try.info2 rfl w.heap.size _ _ _ rfl (S2.out.own (i := 1) rfl) _ rfl rfl (by decide) (by decide) hlo ?_)
        intro B1 d1 x1 own gr hat
        have own2 : x1.ownsRow w.heap.size 2 1 (.slice B1 15 d1) 15 (ints (grZ22.take 15)) := by
          rw [take_more (L := grZ22) (f := 14) (x := 15) rfl]
          exact own
        have sq := S2.out.push (i := 1) rfl own2 gr hat
        clear hlo
        have hlo := sq.lo
        have S3 := Lib.hid sq
        clear sq own own2 gr hat S2
        go_wp2_with (at_builtin; refine wpList_push_at _ rfl _ _ 36 2 rfl Try.underlying36 (.int .i64 0) 8 Try.info2 rfl w.heap.size _ _ _ rfl (S3.out.own (i := 2) rfl) _ rfl rfl (by decide) (by decide) hlo ?_)
        intro B2 d2 x2 own gr hat
        have own2 : x2.ownsRow w.heap.size 2 1 (.slice B2 15 d2) 15 (ints (grO22.take 15)) := by
          rw [take_more (L := grO22) (f := 14) (x := 13) rfl]
          exact own
        have sq := S3.out.push (i := 2) rfl own2 gr hat
        clear hlo
        have hlo := sq.lo
        have S4 := Lib.hid sq
        clear sq own own2 gr hat S3
        go_wp2_with (at_builtin; refine wpList_push_at _ rfl _ _ 36 2 rfl Try.underlying36 (.int .i64 0) 8 Try.info2 rfl w.heap.size _ _ _ rfl (S4.out.own (i := 3) rfl) _ rfl rfl (by decide) (by decide) hlo ?_)
        intro B3 d3 x3 own gr hat
        have own2 : x3.ownsRow w.heap.size 2 1 (.slice B3 15 d3) 15 (ints (grT22.take 15)) := by
          rw [take_more (L := grT22) (f := 14) (x := 27) rfl]
          exact own
        have sq := S4.out.push (i := 3) rfl own2 gr hat
        clear hlo
        have hlo := sq.lo
        have S5 := Lib.hid sq
        clear sq own own2 gr hat S4
        go_wp2
        go_roundw
        case rel => exact ⟨15, d1, d2, d3, B1, B2, B3, by decide, rfl, rfl, rfl, rfl, S5.out⟩
        case measure => simp [intOf]
      · have bz : bits .xor .i64 3 1 = 2 := by rfl
        go_wp2
        go_quiet (fail)
        have sq := S1.out.go (below_drewN (Below.refl _ _) nq)
        have hlo := sq.lo
        have S2 := Lib.hid sq
        clear sq S1
        go_wp2_with (at_builtin; refine wpList_push_at _ rfl _ _ 36 2 rfl Try.underlying36 (.int .i64 0) 8 Try.info2 rfl w.heap.size _ _ _ rfl (S2.out.own (i := 1) rfl) _ rfl rfl (by decide) (by decide) hlo ?_)
        intro B1 d1 x1 own gr hat
        have own2 : x1.ownsRow w.heap.size 2 1 (.slice B1 16 d1) 16 (ints (grZ22.take 16)) := by
          rw [take_more (L := grZ22) (f := 15) (x := 14) rfl]
          exact own
        have sq := S2.out.push (i := 1) rfl own2 gr hat
        clear hlo
        have hlo := sq.lo
        have S3 := Lib.hid sq
        clear sq own own2 gr hat S2
        go_wp2_with (at_builtin; refine wpList_push_at _ rfl _ _ 36 2 rfl Try.underlying36 (.int .i64 0) 8 Try.info2 rfl w.heap.size _ _ _ rfl (S3.out.own (i := 2) rfl) _ rfl rfl (by decide) (by decide) hlo ?_)
        intro B2 d2 x2 own gr hat
        have own2 : x2.ownsRow w.heap.size 2 1 (.slice B2 16 d2) 16 (ints (grO22.take 16)) := by
          rw [take_more (L := grO22) (f := 15) (x := 8) rfl]
          exact own
        have sq := S3.out.push (i := 2) rfl own2 gr hat
        clear hlo
        have hlo := sq.lo
        have S4 := Lib.hid sq
        clear sq own own2 gr hat S3
        go_wp2_with (at_builtin; refine wpList_push_at _ rfl _ _ 36 2 rfl Try.underlying36 (.int .i64 0) 8 Try.info2 rfl w.heap.size _ _ _ rfl (S4.out.own (i := 3) rfl) _ rfl rfl (by decide) (by decide) hlo ?_)
        intro B3 d3 x3 own gr hat
        have own2 : x3.ownsRow w.heap.size 2 1 (.slice B3 16 d3) 16 (ints (grT22.take 16)) := by
          rw [take_more (L := grT22) (f := 15) (x := 26) rfl]
          exact own
        have sq := S4.out.push (i := 3) rfl own2 gr hat
        clear hlo
        have hlo := sq.lo
        have S5 := Lib.hid sq
        clear sq own own2 gr hat S4
        go_wp2
        go_roundw
        case rel => exact ⟨16, d1, d2, d3, B1, B2, B3, by decide, rfl, rfl, rfl, rfl, S5.out⟩
        case measure => simp [intOf]
      · have bz : bits .xor .i64 4 1 = 5 := by rfl
        go_wp2
        go_quiet (fail)
        have sq := S1.out.go (below_drewN (Below.refl _ _) nq)
        have hlo := sq.lo
        have S2 := Lib.hid sq
        clear sq S1
        go_wp2_with (at_builtin; refine wpList_push_at _ rfl _ _ 36 2 rfl Try.underlying36 (.int .i64 0) 8 Try.info2 rfl w.heap.size _ _ _ rfl (S2.out.own (i := 1) rfl) _ rfl rfl (by decide) (by decide) hlo ?_)
        intro B1 d1 x1 own gr hat
        have own2 : x1.ownsRow w.heap.size 2 1 (.slice B1 17 d1) 17 (ints (grZ22.take 17)) := by
          rw [take_more (L := grZ22) (f := 16) (x := 17) rfl]
          exact own
        have sq := S2.out.push (i := 1) rfl own2 gr hat
        clear hlo
        have hlo := sq.lo
        have S3 := Lib.hid sq
        clear sq own own2 gr hat S2
        go_wp2_with (at_builtin; refine wpList_push_at _ rfl _ _ 36 2 rfl Try.underlying36 (.int .i64 0) 8 Try.info2 rfl w.heap.size _ _ _ rfl (S3.out.own (i := 2) rfl) _ rfl rfl (by decide) (by decide) hlo ?_)
        intro B2 d2 x2 own gr hat
        have own2 : x2.ownsRow w.heap.size 2 1 (.slice B2 17 d2) 17 (ints (grO22.take 17)) := by
          rw [take_more (L := grO22) (f := 16) (x := 23) rfl]
          exact own
        have sq := S3.out.push (i := 2) rfl own2 gr hat
        clear hlo
        have hlo := sq.lo
        have S4 := Lib.hid sq
        clear sq own own2 gr hat S3
        go_wp2_with (at_builtin; refine wpList_push_at _ rfl _ _ 36 2 rfl Try.underlying36 (.int .i64 0) 8 Try.info2 rfl w.heap.size _ _ _ rfl (S4.out.own (i := 3) rfl) _ rfl rfl (by decide) (by decide) hlo ?_)
        intro B3 d3 x3 own gr hat
        have own2 : x3.ownsRow w.heap.size 2 1 (.slice B3 17 d3) 17 (ints (grT22.take 17)) := by
          rw [take_more (L := grT22) (f := 16) (x := 29) rfl]
          exact own
        have sq := S4.out.push (i := 3) rfl own2 gr hat
        clear hlo
        have hlo := sq.lo
        have S5 := Lib.hid sq
        clear sq own own2 gr hat S4
        go_wp2
        go_roundw
        case rel => exact ⟨17, d1, d2, d3, B1, B2, B3, by decide, rfl, rfl, rfl, rfl, S5.out⟩
        case measure => simp [intOf]
      · have bz : bits .xor .i64 5 1 = 4 := by rfl
        go_wp2
        go_quiet (fail)
        have sq := S1.out.go (below_drewN (Below.refl _ _) nq)
        have hlo := sq.lo
        have S2 := Lib.hid sq
        clear sq S1
        go_wp2_with (at_builtin; refine wpList_push_at _ rfl _ _ 36 2 rfl Try.underlying36 (.int .i64 0) 8 Try.info2 rfl w.heap.size _ _ _ rfl (S2.out.own (i := 1) rfl) _ rfl rfl (by decide) (by decide) hlo ?_)
        intro B1 d1 x1 own gr hat
        have own2 : x1.ownsRow w.heap.size 2 1 (.slice B1 18 d1) 18 (ints (grZ22.take 18)) := by
          rw [take_more (L := grZ22) (f := 17) (x := 16) rfl]
          exact own
        have sq := S2.out.push (i := 1) rfl own2 gr hat
        clear hlo
        have hlo := sq.lo
        have S3 := Lib.hid sq
        clear sq own own2 gr hat S2
        go_wp2_with (at_builtin; refine wpList_push_at _ rfl _ _ 36 2 rfl Try.underlying36 (.int .i64 0) 8 Try.info2 rfl w.heap.size _ _ _ rfl (S3.out.own (i := 2) rfl) _ rfl rfl (by decide) (by decide) hlo ?_)
        intro B2 d2 x2 own gr hat
        have own2 : x2.ownsRow w.heap.size 2 1 (.slice B2 18 d2) 18 (ints (grO22.take 18)) := by
          rw [take_more (L := grO22) (f := 17) (x := 18) rfl]
          exact own
        have sq := S3.out.push (i := 2) rfl own2 gr hat
        clear hlo
        have hlo := sq.lo
        have S4 := Lib.hid sq
        clear sq own own2 gr hat S3
        go_wp2_with (at_builtin; refine wpList_push_at _ rfl _ _ 36 2 rfl Try.underlying36 (.int .i64 0) 8 Try.info2 rfl w.heap.size _ _ _ rfl (S4.out.own (i := 3) rfl) _ rfl rfl (by decide) (by decide) hlo ?_)
        intro B3 d3 x3 own gr hat
        have own2 : x3.ownsRow w.heap.size 2 1 (.slice B3 18 d3) 18 (ints (grT22.take 18)) := by
          rw [take_more (L := grT22) (f := 17) (x := 28) rfl]
          exact own
        have sq := S4.out.push (i := 3) rfl own2 gr hat
        clear hlo
        have hlo := sq.lo
        have S5 := Lib.hid sq
        clear sq own own2 gr hat S4
        go_wp2
        go_roundw
        case rel => exact ⟨18, d1, d2, d3, B1, B2, B3, by decide, rfl, rfl, rfl, rfl, S5.out⟩
        case measure => simp [intOf]
      · have bz : bits .xor .i64 6 1 = 7 := by rfl
        go_wp2
        go_quiet (fail)
        have sq := S1.out.go (below_drewN (Below.refl _ _) nq)
        have hlo := sq.lo
        have S2 := Lib.hid sq
        clear sq S1
        go_wp2_with (at_builtin; refine wpList_push_at _ rfl _ _ 36 2 rfl Try.underlying36 (.int .i64 0) 8 Try.info2 rfl w.heap.size _ _ _ rfl (S2.out.own (i := 1) rfl) _ rfl rfl (by decide) (by decide) hlo ?_)
        intro B1 d1 x1 own gr hat
        have own2 : x1.ownsRow w.heap.size 2 1 (.slice B1 19 d1) 19 (ints (grZ22.take 19)) := by
          rw [take_more (L := grZ22) (f := 18) (x := 19) rfl]
          exact own
        have sq := S2.out.push (i := 1) rfl own2 gr hat
        clear hlo
        have hlo := sq.lo
        have S3 := Lib.hid sq
        clear sq own own2 gr hat S2
        go_wp2_with (at_builtin; refine wpList_push_at _ rfl _ _ 36 2 rfl Try.underlying36 (.int .i64 0) 8 Try.info2 rfl w.heap.size _ _ _ rfl (S3.out.own (i := 2) rfl) _ rfl rfl (by decide) (by decide) hlo ?_)
        intro B2 d2 x2 own gr hat
        have own2 : x2.ownsRow w.heap.size 2 1 (.slice B2 19 d2) 19 (ints (grO22.take 19)) := by
          rw [take_more (L := grO22) (f := 18) (x := 17) rfl]
          exact own
        have sq := S3.out.push (i := 2) rfl own2 gr hat
        clear hlo
        have hlo := sq.lo
        have S4 := Lib.hid sq
        clear sq own own2 gr hat S3
        go_wp2_with (at_builtin; refine wpList_push_at _ rfl _ _ 36 2 rfl Try.underlying36 (.int .i64 0) 8 Try.info2 rfl w.heap.size _ _ _ rfl (S4.out.own (i := 3) rfl) _ rfl rfl (by decide) (by decide) hlo ?_)
        intro B3 d3 x3 own gr hat
        have own2 : x3.ownsRow w.heap.size 2 1 (.slice B3 19 d3) 19 (ints (grT22.take 19)) := by
          rw [take_more (L := grT22) (f := 18) (x := 7) rfl]
          exact own
        have sq := S4.out.push (i := 3) rfl own2 gr hat
        clear hlo
        have hlo := sq.lo
        have S5 := Lib.hid sq
        clear sq own own2 gr hat S4
        go_wp2
        go_roundw
        case rel => exact ⟨19, d1, d2, d3, B1, B2, B3, by decide, rfl, rfl, rfl, rfl, S5.out⟩
        case measure => simp [intOf]
      · have bz : bits .xor .i64 7 1 = 6 := by rfl
        go_wp2
        go_quiet (fail)
        have sq := S1.out.go (below_drewN (Below.refl _ _) nq)
        have hlo := sq.lo
        have S2 := Lib.hid sq
        clear sq S1
        go_wp2_with (at_builtin; refine wpList_push_at _ rfl _ _ 36 2 rfl Try.underlying36 (.int .i64 0) 8 Try.info2 rfl w.heap.size _ _ _ rfl (S2.out.own (i := 1) rfl) _ rfl rfl (by decide) (by decide) hlo ?_)
        intro B1 d1 x1 own gr hat
        have own2 : x1.ownsRow w.heap.size 2 1 (.slice B1 20 d1) 20 (ints (grZ22.take 20)) := by
          rw [take_more (L := grZ22) (f := 19) (x := 18) rfl]
          exact own
        have sq := S2.out.push (i := 1) rfl own2 gr hat
        clear hlo
        have hlo := sq.lo
        have S3 := Lib.hid sq
        clear sq own own2 gr hat S2
        go_wp2_with (at_builtin; refine wpList_push_at _ rfl _ _ 36 2 rfl Try.underlying36 (.int .i64 0) 8 Try.info2 rfl w.heap.size _ _ _ rfl (S3.out.own (i := 2) rfl) _ rfl rfl (by decide) (by decide) hlo ?_)
        intro B2 d2 x2 own gr hat
        have own2 : x2.ownsRow w.heap.size 2 1 (.slice B2 20 d2) 20 (ints (grO22.take 20)) := by
          rw [take_more (L := grO22) (f := 19) (x := 20) rfl]
          exact own
        have sq := S3.out.push (i := 2) rfl own2 gr hat
        clear hlo
        have hlo := sq.lo
        have S4 := Lib.hid sq
        clear sq own own2 gr hat S3
        go_wp2_with (at_builtin; refine wpList_push_at _ rfl _ _ 36 2 rfl Try.underlying36 (.int .i64 0) 8 Try.info2 rfl w.heap.size _ _ _ rfl (S4.out.own (i := 3) rfl) _ rfl rfl (by decide) (by decide) hlo ?_)
        intro B3 d3 x3 own gr hat
        have own2 : x3.ownsRow w.heap.size 2 1 (.slice B3 20 d3) 20 (ints (grT22.take 20)) := by
          rw [take_more (L := grT22) (f := 19) (x := 6) rfl]
          exact own
        have sq := S4.out.push (i := 3) rfl own2 gr hat
        clear hlo
        have hlo := sq.lo
        have S5 := Lib.hid sq
        clear sq own own2 gr hat S4
        go_wp2
        go_roundw
        case rel => exact ⟨20, d1, d2, d3, B1, B2, B3, by decide, rfl, rfl, rfl, rfl, S5.out⟩
        case measure => simp [intOf]
      · have bz : bits .xor .i64 0 1 = 1 := by rfl
        go_wp2
        go_quiet (fail)
        have sq := S1.out.go (below_drewN (Below.refl _ _) nq)
        have hlo := sq.lo
        have S2 := Lib.hid sq
        clear sq S1
        go_wp2_with (at_builtin; refine wpList_push_at _ rfl _ _ 36 2 rfl Try.underlying36 (.int .i64 0) 8 Try.info2 rfl w.heap.size _ _ _ rfl (S2.out.own (i := 1) rfl) _ rfl rfl (by decide) (by decide) hlo ?_)
        intro B1 d1 x1 own gr hat
        have own2 : x1.ownsRow w.heap.size 2 1 (.slice B1 21 d1) 21 (ints (grZ22.take 21)) := by
          rw [take_more (L := grZ22) (f := 20) (x := 21) rfl]
          exact own
        have sq := S2.out.push (i := 1) rfl own2 gr hat
        clear hlo
        have hlo := sq.lo
        have S3 := Lib.hid sq
        clear sq own own2 gr hat S2
        go_wp2_with (at_builtin; refine wpList_push_at _ rfl _ _ 36 2 rfl Try.underlying36 (.int .i64 0) 8 Try.info2 rfl w.heap.size _ _ _ rfl (S3.out.own (i := 2) rfl) _ rfl rfl (by decide) (by decide) hlo ?_)
        intro B2 d2 x2 own gr hat
        have own2 : x2.ownsRow w.heap.size 2 1 (.slice B2 21 d2) 21 (ints (grO22.take 21)) := by
          rw [take_more (L := grO22) (f := 20) (x := 19) rfl]
          exact own
        have sq := S3.out.push (i := 2) rfl own2 gr hat
        clear hlo
        have hlo := sq.lo
        have S4 := Lib.hid sq
        clear sq own own2 gr hat S3
        go_wp2_with (at_builtin; refine wpList_push_at _ rfl _ _ 36 2 rfl Try.underlying36 (.int .i64 0) 8 Try.info2 rfl w.heap.size _ _ _ rfl (S4.out.own (i := 3) rfl) _ rfl rfl (by decide) (by decide) hlo ?_)
        intro B3 d3 x3 own gr hat
        have own2 : x3.ownsRow w.heap.size 2 1 (.slice B3 21 d3) 21 (ints (grT22.take 21)) := by
          rw [take_more (L := grT22) (f := 20) (x := 25) rfl]
          exact own
        have sq := S4.out.push (i := 3) rfl own2 gr hat
        clear hlo
        have hlo := sq.lo
        have S5 := Lib.hid sq
        clear sq own own2 gr hat S4
        go_wp2
        go_roundw
        case rel => exact ⟨21, d1, d2, d3, B1, B2, B3, by decide, rfl, rfl, rfl, rfl, S5.out⟩
        case measure => simp [intOf]
      · have bz : bits .xor .i64 1 1 = 0 := by rfl
        go_wp2
        go_quiet (fail)
        have sq := S1.out.go (below_drewN (Below.refl _ _) nq)
        have hlo := sq.lo
        have S2 := Lib.hid sq
        clear sq S1
        go_wp2_with (at_builtin; refine wpList_push_at _ rfl _ _ 36 2 rfl Try.underlying36 (.int .i64 0) 8 Try.info2 rfl w.heap.size _ _ _ rfl (S2.out.own (i := 1) rfl) _ rfl rfl (by decide) (by decide) hlo ?_)
        intro B1 d1 x1 own gr hat
        have own2 : x1.ownsRow w.heap.size 2 1 (.slice B1 22 d1) 22 (ints (grZ22.take 22)) := by
          rw [take_more (L := grZ22) (f := 21) (x := 20) rfl]
          exact own
        have sq := S2.out.push (i := 1) rfl own2 gr hat
        clear hlo
        have hlo := sq.lo
        have S3 := Lib.hid sq
        clear sq own own2 gr hat S2
        go_wp2_with (at_builtin; refine wpList_push_at _ rfl _ _ 36 2 rfl Try.underlying36 (.int .i64 0) 8 Try.info2 rfl w.heap.size _ _ _ rfl (S3.out.own (i := 2) rfl) _ rfl rfl (by decide) (by decide) hlo ?_)
        intro B2 d2 x2 own gr hat
        have own2 : x2.ownsRow w.heap.size 2 1 (.slice B2 22 d2) 22 (ints (grO22.take 22)) := by
          rw [take_more (L := grO22) (f := 21) (x := 22) rfl]
          exact own
        have sq := S3.out.push (i := 2) rfl own2 gr hat
        clear hlo
        have hlo := sq.lo
        have S4 := Lib.hid sq
        clear sq own own2 gr hat S3
        go_wp2_with (at_builtin; refine wpList_push_at _ rfl _ _ 36 2 rfl Try.underlying36 (.int .i64 0) 8 Try.info2 rfl w.heap.size _ _ _ rfl (S4.out.own (i := 3) rfl) _ rfl rfl (by decide) (by decide) hlo ?_)
        intro B3 d3 x3 own gr hat
        have own2 : x3.ownsRow w.heap.size 2 1 (.slice B3 22 d3) 22 (ints (grT22.take 22)) := by
          rw [take_more (L := grT22) (f := 21) (x := 24) rfl]
          exact own
        have sq := S4.out.push (i := 3) rfl own2 gr hat
        clear hlo
        have hlo := sq.lo
        have S5 := Lib.hid sq
        clear sq own own2 gr hat S4
        go_wp2
        go_roundw
        case rel => exact ⟨22, d1, d2, d3, B1, B2, B3, by decide, rfl, rfl, rfl, rfl, S5.out⟩
        case measure => simp [intOf]
      · have bz : bits .xor .i64 2 1 = 3 := by rfl
        go_wp2
        go_quiet (fail)
        have sq := S1.out.go (below_drewN (Below.refl _ _) nq)
        have hlo := sq.lo
        have S2 := Lib.hid sq
        clear sq S1
        go_wp2_with (at_builtin; refine wpList_push_at _ rfl _ _ 36 2 rfl Try.underlying36 (.int .i64 0) 8 Try.info2 rfl w.heap.size _ _ _ rfl (S2.out.own (i := 1) rfl) _ rfl rfl (by decide) (by decide) hlo ?_)
        intro B1 d1 x1 own gr hat
        have own2 : x1.ownsRow w.heap.size 2 1 (.slice B1 23 d1) 23 (ints (grZ22.take 23)) := by
          rw [take_more (L := grZ22) (f := 22) (x := 23) rfl]
          exact own
        have sq := S2.out.push (i := 1) rfl own2 gr hat
        clear hlo
        have hlo := sq.lo
        have S3 := Lib.hid sq
        clear sq own own2 gr hat S2
        go_wp2_with (at_builtin; refine wpList_push_at _ rfl _ _ 36 2 rfl Try.underlying36 (.int .i64 0) 8 Try.info2 rfl w.heap.size _ _ _ rfl (S3.out.own (i := 2) rfl) _ rfl rfl (by decide) (by decide) hlo ?_)
        intro B2 d2 x2 own gr hat
        have own2 : x2.ownsRow w.heap.size 2 1 (.slice B2 23 d2) 23 (ints (grO22.take 23)) := by
          rw [take_more (L := grO22) (f := 22) (x := 21) rfl]
          exact own
        have sq := S3.out.push (i := 2) rfl own2 gr hat
        clear hlo
        have hlo := sq.lo
        have S4 := Lib.hid sq
        clear sq own own2 gr hat S3
        go_wp2_with (at_builtin; refine wpList_push_at _ rfl _ _ 36 2 rfl Try.underlying36 (.int .i64 0) 8 Try.info2 rfl w.heap.size _ _ _ rfl (S4.out.own (i := 3) rfl) _ rfl rfl (by decide) (by decide) hlo ?_)
        intro B3 d3 x3 own gr hat
        have own2 : x3.ownsRow w.heap.size 2 1 (.slice B3 23 d3) 23 (ints (grT22.take 23)) := by
          rw [take_more (L := grT22) (f := 22) (x := 3) rfl]
          exact own
        have sq := S4.out.push (i := 3) rfl own2 gr hat
        clear hlo
        have hlo := sq.lo
        have S5 := Lib.hid sq
        clear sq own own2 gr hat S4
        go_wp2
        go_roundw
        case rel => exact ⟨23, d1, d2, d3, B1, B2, B3, by decide, rfl, rfl, rfl, rfl, S5.out⟩
        case measure => simp [intOf]
      · have bz : bits .xor .i64 3 1 = 2 := by rfl
        go_wp2
        go_quiet (fail)
        have sq := S1.out.go (below_drewN (Below.refl _ _) nq)
        have hlo := sq.lo
        have S2 := Lib.hid sq
        clear sq S1
        go_wp2_with (at_builtin; refine wpList_push_at _ rfl _ _ 36 2 rfl Try.underlying36 (.int .i64 0) 8 Try.info2 rfl w.heap.size _ _ _ rfl (S2.out.own (i := 1) rfl) _ rfl rfl (by decide) (by decide) hlo ?_)
        intro B1 d1 x1 own gr hat
        have own2 : x1.ownsRow w.heap.size 2 1 (.slice B1 24 d1) 24 (ints (grZ22.take 24)) := by
          rw [take_more (L := grZ22) (f := 23) (x := 22) rfl]
          exact own
        have sq := S2.out.push (i := 1) rfl own2 gr hat
        clear hlo
        have hlo := sq.lo
        have S3 := Lib.hid sq
        clear sq own own2 gr hat S2
        go_wp2_with (at_builtin; refine wpList_push_at _ rfl _ _ 36 2 rfl Try.underlying36 (.int .i64 0) 8 Try.info2 rfl w.heap.size _ _ _ rfl (S3.out.own (i := 2) rfl) _ rfl rfl (by decide) (by decide) hlo ?_)
        intro B2 d2 x2 own gr hat
        have own2 : x2.ownsRow w.heap.size 2 1 (.slice B2 24 d2) 24 (ints (grO22.take 24)) := by
          rw [take_more (L := grO22) (f := 23) (x := 16) rfl]
          exact own
        have sq := S3.out.push (i := 2) rfl own2 gr hat
        clear hlo
        have hlo := sq.lo
        have S4 := Lib.hid sq
        clear sq own own2 gr hat S3
        go_wp2_with (at_builtin; refine wpList_push_at _ rfl _ _ 36 2 rfl Try.underlying36 (.int .i64 0) 8 Try.info2 rfl w.heap.size _ _ _ rfl (S4.out.own (i := 3) rfl) _ rfl rfl (by decide) (by decide) hlo ?_)
        intro B3 d3 x3 own gr hat
        have own2 : x3.ownsRow w.heap.size 2 1 (.slice B3 24 d3) 24 (ints (grT22.take 24)) := by
          rw [take_more (L := grT22) (f := 23) (x := 2) rfl]
          exact own
        have sq := S4.out.push (i := 3) rfl own2 gr hat
        clear hlo
        have hlo := sq.lo
        have S5 := Lib.hid sq
        clear sq own own2 gr hat S4
        go_wp2
        go_roundw
        case rel => exact ⟨24, d1, d2, d3, B1, B2, B3, by decide, rfl, rfl, rfl, rfl, S5.out⟩
        case measure => simp [intOf]
      · have bz : bits .xor .i64 4 1 = 5 := by rfl
        go_wp2
        go_quiet (fail)
        have sq := S1.out.go (below_drewN (Below.refl _ _) nq)
        have hlo := sq.lo
        have S2 := Lib.hid sq
        clear sq S1
        go_wp2_with (at_builtin; refine wpList_push_at _ rfl _ _ 36 2 rfl Try.underlying36 (.int .i64 0) 8 Try.info2 rfl w.heap.size _ _ _ rfl (S2.out.own (i := 1) rfl) _ rfl rfl (by decide) (by decide) hlo ?_)
        intro B1 d1 x1 own gr hat
        have own2 : x1.ownsRow w.heap.size 2 1 (.slice B1 25 d1) 25 (ints (grZ22.take 25)) := by
          rw [take_more (L := grZ22) (f := 24) (x := 25) rfl]
          exact own
        have sq := S2.out.push (i := 1) rfl own2 gr hat
        clear hlo
        have hlo := sq.lo
        have S3 := Lib.hid sq
        clear sq own own2 gr hat S2
        go_wp2_with (at_builtin; refine wpList_push_at _ rfl _ _ 36 2 rfl Try.underlying36 (.int .i64 0) 8 Try.info2 rfl w.heap.size _ _ _ rfl (S3.out.own (i := 2) rfl) _ rfl rfl (by decide) (by decide) hlo ?_)
        intro B2 d2 x2 own gr hat
        have own2 : x2.ownsRow w.heap.size 2 1 (.slice B2 25 d2) 25 (ints (grO22.take 25)) := by
          rw [take_more (L := grO22) (f := 24) (x := 31) rfl]
          exact own
        have sq := S3.out.push (i := 2) rfl own2 gr hat
        clear hlo
        have hlo := sq.lo
        have S4 := Lib.hid sq
        clear sq own own2 gr hat S3
        go_wp2_with (at_builtin; refine wpList_push_at _ rfl _ _ 36 2 rfl Try.underlying36 (.int .i64 0) 8 Try.info2 rfl w.heap.size _ _ _ rfl (S4.out.own (i := 3) rfl) _ rfl rfl (by decide) (by decide) hlo ?_)
        intro B3 d3 x3 own gr hat
        have own2 : x3.ownsRow w.heap.size 2 1 (.slice B3 25 d3) 25 (ints (grT22.take 25)) := by
          rw [take_more (L := grT22) (f := 24) (x := 21) rfl]
          exact own
        have sq := S4.out.push (i := 3) rfl own2 gr hat
        clear hlo
        have hlo := sq.lo
        have S5 := Lib.hid sq
        clear sq own own2 gr hat S4
        go_wp2
        go_roundw
        case rel => exact ⟨25, d1, d2, d3, B1, B2, B3, by decide, rfl, rfl, rfl, rfl, S5.out⟩
        case measure => simp [intOf]
      · have bz : bits .xor .i64 5 1 = 4 := by rfl
        go_wp2
        go_quiet (fail)
        have sq := S1.out.go (below_drewN (Below.refl _ _) nq)
        have hlo := sq.lo
        have S2 := Lib.hid sq
        clear sq S1
        go_wp2_with (at_builtin; refine wpList_push_at _ rfl _ _ 36 2 rfl Try.underlying36 (.int .i64 0) 8 Try.info2 rfl w.heap.size _ _ _ rfl (S2.out.own (i := 1) rfl) _ rfl rfl (by decide) (by decide) hlo ?_)
        intro B1 d1 x1 own gr hat
        have own2 : x1.ownsRow w.heap.size 2 1 (.slice B1 26 d1) 26 (ints (grZ22.take 26)) := by
          rw [take_more (L := grZ22) (f := 25) (x := 24) rfl]
          exact own
        have sq := S2.out.push (i := 1) rfl own2 gr hat
        clear hlo
        have hlo := sq.lo
        have S3 := Lib.hid sq
        clear sq own own2 gr hat S2
        go_wp2_with (at_builtin; refine wpList_push_at _ rfl _ _ 36 2 rfl Try.underlying36 (.int .i64 0) 8 Try.info2 rfl w.heap.size _ _ _ rfl (S3.out.own (i := 2) rfl) _ rfl rfl (by decide) (by decide) hlo ?_)
        intro B2 d2 x2 own gr hat
        have own2 : x2.ownsRow w.heap.size 2 1 (.slice B2 26 d2) 26 (ints (grO22.take 26)) := by
          rw [take_more (L := grO22) (f := 25) (x := 26) rfl]
          exact own
        have sq := S3.out.push (i := 2) rfl own2 gr hat
        clear hlo
        have hlo := sq.lo
        have S4 := Lib.hid sq
        clear sq own own2 gr hat S3
        go_wp2_with (at_builtin; refine wpList_push_at _ rfl _ _ 36 2 rfl Try.underlying36 (.int .i64 0) 8 Try.info2 rfl w.heap.size _ _ _ rfl (S4.out.own (i := 3) rfl) _ rfl rfl (by decide) (by decide) hlo ?_)
        intro B3 d3 x3 own gr hat
        have own2 : x3.ownsRow w.heap.size 2 1 (.slice B3 26 d3) 26 (ints (grT22.take 26)) := by
          rw [take_more (L := grT22) (f := 25) (x := 20) rfl]
          exact own
        have sq := S4.out.push (i := 3) rfl own2 gr hat
        clear hlo
        have hlo := sq.lo
        have S5 := Lib.hid sq
        clear sq own own2 gr hat S4
        go_wp2
        go_roundw
        case rel => exact ⟨26, d1, d2, d3, B1, B2, B3, by decide, rfl, rfl, rfl, rfl, S5.out⟩
        case measure => simp [intOf]
      · have bz : bits .xor .i64 6 1 = 7 := by rfl
        go_wp2
        go_quiet (fail)
        have sq := S1.out.go (below_drewN (Below.refl _ _) nq)
        have hlo := sq.lo
        have S2 := Lib.hid sq
        clear sq S1
        go_wp2_with (at_builtin; refine wpList_push_at _ rfl _ _ 36 2 rfl Try.underlying36 (.int .i64 0) 8 Try.info2 rfl w.heap.size _ _ _ rfl (S2.out.own (i := 1) rfl) _ rfl rfl (by decide) (by decide) hlo ?_)
        intro B1 d1 x1 own gr hat
        have own2 : x1.ownsRow w.heap.size 2 1 (.slice B1 27 d1) 27 (ints (grZ22.take 27)) := by
          rw [take_more (L := grZ22) (f := 26) (x := 27) rfl]
          exact own
        have sq := S2.out.push (i := 1) rfl own2 gr hat
        clear hlo
        have hlo := sq.lo
        have S3 := Lib.hid sq
        clear sq own own2 gr hat S2
        go_wp2_with (at_builtin; refine wpList_push_at _ rfl _ _ 36 2 rfl Try.underlying36 (.int .i64 0) 8 Try.info2 rfl w.heap.size _ _ _ rfl (S3.out.own (i := 2) rfl) _ rfl rfl (by decide) (by decide) hlo ?_)
        intro B2 d2 x2 own gr hat
        have own2 : x2.ownsRow w.heap.size 2 1 (.slice B2 27 d2) 27 (ints (grO22.take 27)) := by
          rw [take_more (L := grO22) (f := 26) (x := 25) rfl]
          exact own
        have sq := S3.out.push (i := 2) rfl own2 gr hat
        clear hlo
        have hlo := sq.lo
        have S4 := Lib.hid sq
        clear sq own own2 gr hat S3
        go_wp2_with (at_builtin; refine wpList_push_at _ rfl _ _ 36 2 rfl Try.underlying36 (.int .i64 0) 8 Try.info2 rfl w.heap.size _ _ _ rfl (S4.out.own (i := 3) rfl) _ rfl rfl (by decide) (by decide) hlo ?_)
        intro B3 d3 x3 own gr hat
        have own2 : x3.ownsRow w.heap.size 2 1 (.slice B3 27 d3) 27 (ints (grT22.take 27)) := by
          rw [take_more (L := grT22) (f := 26) (x := 15) rfl]
          exact own
        have sq := S4.out.push (i := 3) rfl own2 gr hat
        clear hlo
        have hlo := sq.lo
        have S5 := Lib.hid sq
        clear sq own own2 gr hat S4
        go_wp2
        go_roundw
        case rel => exact ⟨27, d1, d2, d3, B1, B2, B3, by decide, rfl, rfl, rfl, rfl, S5.out⟩
        case measure => simp [intOf]
      · have bz : bits .xor .i64 7 1 = 6 := by rfl
        go_wp2
        go_quiet (fail)
        have sq := S1.out.go (below_drewN (Below.refl _ _) nq)
        have hlo := sq.lo
        have S2 := Lib.hid sq
        clear sq S1
        go_wp2_with (at_builtin; refine wpList_push_at _ rfl _ _ 36 2 rfl Try.underlying36 (.int .i64 0) 8 Try.info2 rfl w.heap.size _ _ _ rfl (S2.out.own (i := 1) rfl) _ rfl rfl (by decide) (by decide) hlo ?_)
        intro B1 d1 x1 own gr hat
        have own2 : x1.ownsRow w.heap.size 2 1 (.slice B1 28 d1) 28 (ints (grZ22.take 28)) := by
          rw [take_more (L := grZ22) (f := 27) (x := 26) rfl]
          exact own
        have sq := S2.out.push (i := 1) rfl own2 gr hat
        clear hlo
        have hlo := sq.lo
        have S3 := Lib.hid sq
        clear sq own own2 gr hat S2
        go_wp2_with (at_builtin; refine wpList_push_at _ rfl _ _ 36 2 rfl Try.underlying36 (.int .i64 0) 8 Try.info2 rfl w.heap.size _ _ _ rfl (S3.out.own (i := 2) rfl) _ rfl rfl (by decide) (by decide) hlo ?_)
        intro B2 d2 x2 own gr hat
        have own2 : x2.ownsRow w.heap.size 2 1 (.slice B2 28 d2) 28 (ints (grO22.take 28)) := by
          rw [take_more (L := grO22) (f := 27) (x := 28) rfl]
          exact own
        have sq := S3.out.push (i := 2) rfl own2 gr hat
        clear hlo
        have hlo := sq.lo
        have S4 := Lib.hid sq
        clear sq own own2 gr hat S3
        go_wp2_with (at_builtin; refine wpList_push_at _ rfl _ _ 36 2 rfl Try.underlying36 (.int .i64 0) 8 Try.info2 rfl w.heap.size _ _ _ rfl (S4.out.own (i := 3) rfl) _ rfl rfl (by decide) (by decide) hlo ?_)
        intro B3 d3 x3 own gr hat
        have own2 : x3.ownsRow w.heap.size 2 1 (.slice B3 28 d3) 28 (ints (grT22.take 28)) := by
          rw [take_more (L := grT22) (f := 27) (x := 14) rfl]
          exact own
        have sq := S4.out.push (i := 3) rfl own2 gr hat
        clear hlo
        have hlo := sq.lo
        have S5 := Lib.hid sq
        clear sq own own2 gr hat S4
        go_wp2
        go_roundw
        case rel => exact ⟨28, d1, d2, d3, B1, B2, B3, by decide, rfl, rfl, rfl, rfl, S5.out⟩
        case measure => simp [intOf]
      · have bz : bits .xor .i64 0 1 = 1 := by rfl
        go_wp2
        go_quiet (fail)
        have sq := S1.out.go (below_drewN (Below.refl _ _) nq)
        have hlo := sq.lo
        have S2 := Lib.hid sq
        clear sq S1
        go_wp2_with (at_builtin; refine wpList_push_at _ rfl _ _ 36 2 rfl Try.underlying36 (.int .i64 0) 8 Try.info2 rfl w.heap.size _ _ _ rfl (S2.out.own (i := 1) rfl) _ rfl rfl (by decide) (by decide) hlo ?_)
        intro B1 d1 x1 own gr hat
        have own2 : x1.ownsRow w.heap.size 2 1 (.slice B1 29 d1) 29 (ints (grZ22.take 29)) := by
          rw [take_more (L := grZ22) (f := 28) (x := 29) rfl]
          exact own
        have sq := S2.out.push (i := 1) rfl own2 gr hat
        clear hlo
        have hlo := sq.lo
        have S3 := Lib.hid sq
        clear sq own own2 gr hat S2
        go_wp2_with (at_builtin; refine wpList_push_at _ rfl _ _ 36 2 rfl Try.underlying36 (.int .i64 0) 8 Try.info2 rfl w.heap.size _ _ _ rfl (S3.out.own (i := 2) rfl) _ rfl rfl (by decide) (by decide) hlo ?_)
        intro B2 d2 x2 own gr hat
        have own2 : x2.ownsRow w.heap.size 2 1 (.slice B2 29 d2) 29 (ints (grO22.take 29)) := by
          rw [take_more (L := grO22) (f := 28) (x := 27) rfl]
          exact own
        have sq := S3.out.push (i := 2) rfl own2 gr hat
        clear hlo
        have hlo := sq.lo
        have S4 := Lib.hid sq
        clear sq own own2 gr hat S3
        go_wp2_with (at_builtin; refine wpList_push_at _ rfl _ _ 36 2 rfl Try.underlying36 (.int .i64 0) 8 Try.info2 rfl w.heap.size _ _ _ rfl (S4.out.own (i := 3) rfl) _ rfl rfl (by decide) (by decide) hlo ?_)
        intro B3 d3 x3 own gr hat
        have own2 : x3.ownsRow w.heap.size 2 1 (.slice B3 29 d3) 29 (ints (grT22.take 29)) := by
          rw [take_more (L := grT22) (f := 28) (x := 17) rfl]
          exact own
        have sq := S4.out.push (i := 3) rfl own2 gr hat
        clear hlo
        have hlo := sq.lo
        have S5 := Lib.hid sq
        clear sq own own2 gr hat S4
        go_wp2
        go_roundw
        case rel => exact ⟨29, d1, d2, d3, B1, B2, B3, by decide, rfl, rfl, rfl, rfl, S5.out⟩
        case measure => simp [intOf]
      · have bz : bits .xor .i64 1 1 = 0 := by rfl
        go_wp2
        go_quiet (fail)
        have sq := S1.out.go (below_drewN (Below.refl _ _) nq)
        have hlo := sq.lo
        have S2 := Lib.hid sq
        clear sq S1
        go_wp2_with (at_builtin; refine wpList_push_at _ rfl _ _ 36 2 rfl Try.underlying36 (.int .i64 0) 8 Try.info2 rfl w.heap.size _ _ _ rfl (S2.out.own (i := 1) rfl) _ rfl rfl (by decide) (by decide) hlo ?_)
        intro B1 d1 x1 own gr hat
        have own2 : x1.ownsRow w.heap.size 2 1 (.slice B1 30 d1) 30 (ints (grZ22.take 30)) := by
          rw [take_more (L := grZ22) (f := 29) (x := 28) rfl]
          exact own
        have sq := S2.out.push (i := 1) rfl own2 gr hat
        clear hlo
        have hlo := sq.lo
        have S3 := Lib.hid sq
        clear sq own own2 gr hat S2
        go_wp2_with (at_builtin; refine wpList_push_at _ rfl _ _ 36 2 rfl Try.underlying36 (.int .i64 0) 8 Try.info2 rfl w.heap.size _ _ _ rfl (S3.out.own (i := 2) rfl) _ rfl rfl (by decide) (by decide) hlo ?_)
        intro B2 d2 x2 own gr hat
        have own2 : x2.ownsRow w.heap.size 2 1 (.slice B2 30 d2) 30 (ints (grO22.take 30)) := by
          rw [take_more (L := grO22) (f := 29) (x := 30) rfl]
          exact own
        have sq := S3.out.push (i := 2) rfl own2 gr hat
        clear hlo
        have hlo := sq.lo
        have S4 := Lib.hid sq
        clear sq own own2 gr hat S3
        go_wp2_with (at_builtin; refine wpList_push_at _ rfl _ _ 36 2 rfl Try.underlying36 (.int .i64 0) 8 Try.info2 rfl w.heap.size _ _ _ rfl (S4.out.own (i := 3) rfl) _ rfl rfl (by decide) (by decide) hlo ?_)
        intro B3 d3 x3 own gr hat
        have own2 : x3.ownsRow w.heap.size 2 1 (.slice B3 30 d3) 30 (ints (grT22.take 30)) := by
          rw [take_more (L := grT22) (f := 29) (x := 16) rfl]
          exact own
        have sq := S4.out.push (i := 3) rfl own2 gr hat
        clear hlo
        have hlo := sq.lo
        have S5 := Lib.hid sq
        clear sq own own2 gr hat S4
        go_wp2
        go_roundw
        case rel => exact ⟨30, d1, d2, d3, B1, B2, B3, by decide, rfl, rfl, rfl, rfl, S5.out⟩
        case measure => simp [intOf]
      · have bz : bits .xor .i64 2 1 = 3 := by rfl
        go_wp2
        go_quiet (fail)
        have sq := S1.out.go (below_drewN (Below.refl _ _) nq)
        have hlo := sq.lo
        have S2 := Lib.hid sq
        clear sq S1
        go_wp2_with (at_builtin; refine wpList_push_at _ rfl _ _ 36 2 rfl Try.underlying36 (.int .i64 0) 8 Try.info2 rfl w.heap.size _ _ _ rfl (S2.out.own (i := 1) rfl) _ rfl rfl (by decide) (by decide) hlo ?_)
        intro B1 d1 x1 own gr hat
        have own2 : x1.ownsRow w.heap.size 2 1 (.slice B1 31 d1) 31 (ints (grZ22.take 31)) := by
          rw [take_more (L := grZ22) (f := 30) (x := 31) rfl]
          exact own
        have sq := S2.out.push (i := 1) rfl own2 gr hat
        clear hlo
        have hlo := sq.lo
        have S3 := Lib.hid sq
        clear sq own own2 gr hat S2
        go_wp2_with (at_builtin; refine wpList_push_at _ rfl _ _ 36 2 rfl Try.underlying36 (.int .i64 0) 8 Try.info2 rfl w.heap.size _ _ _ rfl (S3.out.own (i := 2) rfl) _ rfl rfl (by decide) (by decide) hlo ?_)
        intro B2 d2 x2 own gr hat
        have own2 : x2.ownsRow w.heap.size 2 1 (.slice B2 31 d2) 31 (ints (grO22.take 31)) := by
          rw [take_more (L := grO22) (f := 30) (x := 29) rfl]
          exact own
        have sq := S3.out.push (i := 2) rfl own2 gr hat
        clear hlo
        have hlo := sq.lo
        have S4 := Lib.hid sq
        clear sq own own2 gr hat S3
        go_wp2_with (at_builtin; refine wpList_push_at _ rfl _ _ 36 2 rfl Try.underlying36 (.int .i64 0) 8 Try.info2 rfl w.heap.size _ _ _ rfl (S4.out.own (i := 3) rfl) _ rfl rfl (by decide) (by decide) hlo ?_)
        intro B3 d3 x3 own gr hat
        have own2 : x3.ownsRow w.heap.size 2 1 (.slice B3 31 d3) 31 (ints (grT22.take 31)) := by
          rw [take_more (L := grT22) (f := 30) (x := 11) rfl]
          exact own
        have sq := S4.out.push (i := 3) rfl own2 gr hat
        clear hlo
        have hlo := sq.lo
        have S5 := Lib.hid sq
        clear sq own own2 gr hat S4
        go_wp2
        go_roundw
        case rel => exact ⟨31, d1, d2, d3, B1, B2, B3, by decide, rfl, rfl, rfl, rfl, S5.out⟩
        case measure => simp [intOf]
      · have bz : bits .xor .i64 3 1 = 2 := by rfl
        go_wp2
        go_quiet (fail)
        have sq := S1.out.go (below_drewN (Below.refl _ _) nq)
        have hlo := sq.lo
        have S2 := Lib.hid sq
        clear sq S1
        go_wp2_with (at_builtin; refine wpList_push_at _ rfl _ _ 36 2 rfl Try.underlying36 (.int .i64 0) 8 Try.info2 rfl w.heap.size _ _ _ rfl (S2.out.own (i := 1) rfl) _ rfl rfl (by decide) (by decide) hlo ?_)
        intro B1 d1 x1 own gr hat
        have own2 : x1.ownsRow w.heap.size 2 1 (.slice B1 32 d1) 32 (ints (grZ22.take 32)) := by
          rw [take_more (L := grZ22) (f := 31) (x := 30) rfl]
          exact own
        have sq := S2.out.push (i := 1) rfl own2 gr hat
        clear hlo
        have hlo := sq.lo
        have S3 := Lib.hid sq
        clear sq own own2 gr hat S2
        go_wp2_with (at_builtin; refine wpList_push_at _ rfl _ _ 36 2 rfl Try.underlying36 (.int .i64 0) 8 Try.info2 rfl w.heap.size _ _ _ rfl (S3.out.own (i := 2) rfl) _ rfl rfl (by decide) (by decide) hlo ?_)
        intro B2 d2 x2 own gr hat
        have own2 : x2.ownsRow w.heap.size 2 1 (.slice B2 32 d2) 32 (ints (grO22.take 32)) := by
          rw [take_more (L := grO22) (f := 31) (x := 24) rfl]
          exact own
        have sq := S3.out.push (i := 2) rfl own2 gr hat
        clear hlo
        have hlo := sq.lo
        have S4 := Lib.hid sq
        clear sq own own2 gr hat S3
        go_wp2_with (at_builtin; refine wpList_push_at _ rfl _ _ 36 2 rfl Try.underlying36 (.int .i64 0) 8 Try.info2 rfl w.heap.size _ _ _ rfl (S4.out.own (i := 3) rfl) _ rfl rfl (by decide) (by decide) hlo ?_)
        intro B3 d3 x3 own gr hat
        have own2 : x3.ownsRow w.heap.size 2 1 (.slice B3 32 d3) 32 (ints (grT22.take 32)) := by
          rw [take_more (L := grT22) (f := 31) (x := 10) rfl]
          exact own
        have sq := S4.out.push (i := 3) rfl own2 gr hat
        clear hlo
        have hlo := sq.lo
        have S5 := Lib.hid sq
        clear sq own own2 gr hat S4
        go_wp2
        go_roundw
        case rel => exact ⟨32, d1, d2, d3, B1, B2, B3, by decide, rfl, rfl, rfl, rfl, S5.out⟩
        case measure => simp [intOf]
    · obtain rfl : f = 32 := by omega
      have st2 : St w wr [.own 2 A0 32 c0 (ints grZ22), .own 2 A1 32 c1 (ints grO22), .own 2 A2 32 c2 (ints grT22), .blk w.heap.size #[.slice none 0 0] 27] :=
        st.pick (fun i => if i = 3 then 0 else i + 1) (fun i hi => by simp at hi ⊢; split <;> omega) (fun i hi => by
          match i, hi with
          | 0, _ => rfl
          | 1, _ => rfl
          | 2, _ => rfl
          | 3, _ => rfl) (fun i j hi hj h => by simp at hi hj ⊢; split <;> split <;> omega)
      have st3 := st2.rowLit3 (Ps := [.blk w.heap.size #[.slice none 0 0] 27]) rfl rfl rfl 36
      have z0 := (st3.blk (i := 0) rfl).cell (i := 0) rfl
      have f0 := (st3.blk (i := 0) rfl).free 0
      have S3 := Lib.hid st3
      clear st st2 st3
      go_wp2
      have st4 := S3.out.blkSet (i := 0) rfl 0 (.slice (some ⟨wr.heap.size, 0, none⟩) 3 3)
      have y0 := (st4.blk (i := 0) rfl).cell (i := 0) rfl
      refine bodyPost_ret (v := .agg #[.slice (some ⟨wr.heap.size, 0, none⟩) 3 3]) (by simp [results, Try.results156, go_sem, y0]) rfl ⟨_, 3, [.slice A0 32 c0, .slice A1 32 c1, .slice A2 32 c2], rfl, ?_⟩
      exact st4.pick (fun i => i + 1) (fun i hi => by simp at hi ⊢; omega) (fun i hi => by match i, hi with | 0, _ => rfl) (fun i j _ _ h => by omega)
end Go.Proofs.Ytmgoaabeopnopaa
