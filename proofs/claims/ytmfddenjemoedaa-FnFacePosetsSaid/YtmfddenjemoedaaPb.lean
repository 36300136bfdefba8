/- impl.IsPoset and what it calls. -/
import Derived.Test.YtmfddenjemoedaaL14
import Derived.Test.YtmfddenjemoedaaL6
namespace Go.Proofs.Ytmfddenjemoedaa
open Go.RowKit

/-- The struct that came in lies in the first block behind w; nothing before it has turned. -/
structure Bp (w wr : World) (cs : Array Value) (T : TypeId) : Prop where
  bel : Below (w.heap.size + 1) (w.alloc (.cells cs T)) wr
section
variable {w wr w2 : World} {cs : Array Value} {T : TypeId}
theorem Bp.below (h : Bp w wr cs T) : Below w.heap.size w wr := (below1 w _).trans (h.bel.mono (by omega))
theorem Bp.size (h : Bp w wr cs T) : w.heap.size < wr.heap.size := by have := h.bel.size; simp at this; omega
theorem Bp.start (w : World) (cs : Array Value) (T : TypeId) : Bp w (w.alloc (.cells cs T)) cs T := ⟨Below.refl _ _⟩
theorem Bp.go (h : Bp w wr cs T) (hb : Below wr.heap.size wr w2) : Bp w w2 cs T := ⟨h.bel.trans (hb.mono (by have := h.size; omega))⟩
theorem Bp.al (h : Bp w wr cs T) (o : Obj) : Bp w (wr.alloc o) cs T := h.go (below1 _ _)
theorem Bp.drewN (h : Bp w wr cs T) (k : Nat) : Bp w (wr.drewN k) cs T := h.go (below_drewN (Below.refl _ _) k)
theorem Bp.drew (h : Bp w wr cs T) : Bp w wr.drew cs T := h.drewN 1
theorem Bp.tu {lo hi : Nat} (h : Bp w wr cs T) (tu : Turns lo hi wr w2) (hlo : w.heap.size + 1 ≤ lo) : Bp w w2 cs T :=
  ⟨tu.below h.bel (by have := h.size; omega) hlo⟩
end
section
variable {w wr : World} {u0 u1 u2 : Value} {T : TypeId}
theorem Bp.cell0 (h : Bp w wr #[u0, u1, u2] T) : wr.cell? ⟨w.heap.size, 0, none⟩ = some u0 :=
  (h.bel.cell (p := ⟨w.heap.size, 0, none⟩) (by simp)).trans (by simp)
theorem Bp.cell1 (h : Bp w wr #[u0, u1, u2] T) : wr.cell? ⟨w.heap.size, 1, none⟩ = some u1 :=
  (h.bel.cell (p := ⟨w.heap.size, 1, none⟩) (by simp)).trans (by simp)
theorem Bp.cell2 (h : Bp w wr #[u0, u1, u2] T) : wr.cell? ⟨w.heap.size, 2, none⟩ = some u2 :=
  (h.bel.cell (p := ⟨w.heap.size, 2, none⟩) (by simp)).trans (by simp)
end

theorem elems_any {R : Int} {A B : Option Addr} {N c M d : Nat} (w : World) :
    Calls Try.prog 80 #[.agg #[.int .i64 R, .slice A N c, .slice B M d]] w fun e w' => e = .returned (.int .i64 N) ∧ w.alloc (.cells #[.int .i64 R, .slice A N c, .slice B M d] 62) = w' := by
  go_enter Try.func80, Try.ntmps80
  go_wp2
  go_ret
  exact ⟨rfl, rfl⟩
theorem elems_bel {R : Int} {A B : Option Addr} {N c M d : Nat} (w : World) :
    Calls Try.prog 80 #[.agg #[.int .i64 R, .slice A N c, .slice B M d]] w fun e w' => e = .returned (.int .i64 N) ∧ Below w.heap.size w w' :=
  (elems_any w).mono fun _ _ ⟨he, hb⟩ => ⟨he, hb ▸ below1 _ _⟩

set_option maxHeartbeats 1600000 in
theorem iranks_any {R : Int} {A B : Option Addr} {N c M d : Nat} {xs : List Int} (w : World) (hx : xs.length = N) (ha : Rd w A (ints xs)) (hN : N ≤ 1048576) (hM : M ≤ 1048576) :
    Calls Try.prog 82 #[.agg #[.int .i64 R, .slice A N c, .slice B M d]] w fun e w' => e = .returned (.bool (pB (RanksOk R xs M))) ∧ Below w.heap.size w w' := by
  have HX := Lib.hid hx
  have HA := Lib.hid ha
  have BX0 := Lib.hid (Bp.start w #[.int .i64 R, .slice A N c, .slice B M d] 62)
  by_cases h1 : R < 1
  · have hs := Lib.hid (pB_false (p := RanksOk R xs M) fun h => by have := h.r1; omega)
    clear hx ha
    go_enter Try.func82, Try.ntmps82
    go_wp2
    go_ret
    exact ⟨ret_bool hs.out.symm, BX0.out.below⟩
  by_cases h5 : 5 < R
  · have hs := Lib.hid (pB_false (p := RanksOk R xs M) fun h => by have := h.r5; omega)
    clear hx ha
    go_enter Try.func82, Try.ntmps82
    go_wp2
    go_ret
    exact ⟨ret_bool hs.out.symm, BX0.out.below⟩
  by_cases h500 : 500 < N
  · have hs := Lib.hid (pB_false (p := RanksOk R xs M) fun h => by have := h.n; omega)
    clear hx ha
    go_enter Try.func82, Try.ntmps82
    go_wp2_with fail
    refine (elems_any _).mono ?_
    rintro e w' ⟨rfl, rfl⟩
    go_wp2
    go_ret
    exact ⟨ret_bool hs.out.symm, (BX0.out.al _).below⟩
  by_cases hMN : M = N
  · subst hMN
    have hne : ((M : Int) != (M : Int)) = false := by simp
    clear hx ha
    go_enter Try.func82, Try.ntmps82
    go_wp2_with fail
    refine (elems_any _).mono ?_
    rintro e w' ⟨rfl, rfl⟩
    go_wp2
    go_loopw [3, 31] (fun l v wr => ∃ (k : Nat) (r : Int), k ≤ M ∧ l = .int .i64 r ∧ v = .int .i64 k ∧ RkTo R xs k r ∧ Bp w wr #[.int .i64 R, .slice A M c, .slice B M d] 62) (fun _ v _ => M - (intOf v).toNat)
    case atStart => exact ⟨0, 0, Nat.zero_le _, rfl, rfl, rkTo_start, BX0.out.al _⟩
    case round =>
      obtain ⟨k, r, hk, rfl, rfl, rt, bx⟩ := hrel
      have RT := Lib.hid rt
      have BX := Lib.hid bx
      clear rt bx
      by_cases hlt : k < M
      · obtain ⟨b, o, x, rfl, hg, hc⟩ := (HA.out.keep BX.out.below).int (k := k) (by rw [HX.out]; exact hlt)
        have HG := Lib.hid hg
        have hb0 := BX.out.cell0
        clear hg
        by_cases hlo : x < r
        · have hs := Lib.hid (pB_false (rkTo_bad (M := M) RT.out HG.out (.inl hlo)))
          go_wp2
          go_ret
          exact ⟨ret_bool hs.out.symm, BX.out.below⟩
        · by_cases hhi : R ≤ x
          · have hs := Lib.hid (pB_false (rkTo_bad (M := M) RT.out HG.out (.inr hhi)))
            go_wp2
            go_ret
            exact ⟨ret_bool hs.out.symm, BX.out.below⟩
          · have RT2 := Lib.hid (rkTo_step RT.out HG.out (by omega) (by omega))
            go_wp2
            go_roundw
            case rel => exact ⟨k + 1, x, by omega, rfl, by go_num, RT2.out, BX.out⟩
            case measure => simp [intOf]; omega
      · have hs := Lib.hid (pB_true (rkTo_all (M := M) RT.out (by rw [HX.out]; omega) (by omega) (by omega) (by rw [HX.out]; omega) HX.out.symm))
        go_wp2
        go_ret
        exact ⟨ret_bool hs.out.symm, BX.out.below⟩
  · have hs := Lib.hid (pB_false (p := RanksOk R xs M) fun h => by have := h.len; omega)
    have hne : ((M : Int) != (N : Int)) = true := by rw [bne_iff_ne]; omega
    clear hx ha hMN
    go_enter Try.func82, Try.ntmps82
    go_wp2_with fail
    refine (elems_any _).mono ?_
    rintro e w' ⟨rfl, rfl⟩
    go_wp2
    go_ret
    exact ⟨ret_bool hs.out.symm, (BX0.out.al _).below⟩
end Go.Proofs.Ytmfddenjemoedaa
