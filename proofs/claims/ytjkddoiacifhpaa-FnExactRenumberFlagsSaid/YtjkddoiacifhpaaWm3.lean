import Derived.Test.YtjkddoiacifhpaaWm2
import Derived.Test.YtjkddoiacifhpaaL4
namespace Go.Proofs.Ytjkddoiacifhpaa
open Go.RowKit

theorem cell_be {w w' : World} {b o : Nat} {v : Value} (h : w.cell? ⟨b, o, none⟩ = some v) (hb : Below w.heap.size w w') : w'.cell? ⟨b, o, none⟩ = some v :=
  (hb.cell (p := ⟨b, o, none⟩) (World.block_lt_of_cell? w _ h)).trans h

theorem cell_ald {w : World} {b o : Nat} {v : Value} (h : w.cell? ⟨b, o, none⟩ = some v) (x : Obj) : (w.alloc x).drew.cell? ⟨b, o, none⟩ = some v := cell_al h x

theorem own_drew {w : World} {base e size n : Nat} {v : Value} {vs : List Value} (h : w.ownsRow base e size v n vs) : w.drew.ownsRow base e size v n vs := h
theorem turns_cell {w w' : World} {lo hi b o : Nat} {v : Value} (tu : Turns lo hi w w') (h : w.cell? ⟨b, o, none⟩ = some v) (hb : b < lo ∨ hi ≤ b) : w'.cell? ⟨b, o, none⟩ = some v :=
  (World.cell?_of_block (w := w) (tu.block b (World.block_lt_of_cell? w _ h) hb)).trans h

set_option maxHeartbeats 1600000 in
theorem flagsFrom_any {A : Option Addr} {c N n p : Nat} {xss : List (List Int)} (w : World) (hx : xss.length = N) (ha : RdSS w A xss) (hN : N ≤ 1048576) (hsys : okSys n xss = true) (hpos : 0 < N) (hp : p < n) :
    Calls Try.prog 126 #[.agg #[.slice A N c], .int .i64 p] w (Ret1 w (orbL xss n p)) := by
  have HX := Lib.hid hx
  have HA := Lib.hid ha
  have HS := Lib.hid hsys
  have hn4 := (sys_parts hsys).2.1
  obtain ⟨b, o, A0, c0, xs0, rfl, hg0, hc0, hrd0, hm0⟩ := ha.row (k := 0) (by omega)
  have hl0 := sys_len hsys hg0
  have hl0 : xs0.length = n := by omega
  rw [hl0, Nat.add_zero] at hc0
  have hmk := run_make_row' (P := Try.prog) 49 4 (.bool false) 1 Try.underlying49 Try.infoB rfl .i64 .i64 n (by omega) (by omega)
  have hlt := World.block_lt_of_cell? w _ hc0
  have hsn := seen_start ((w.alloc (.cells #[.slice (some ⟨b, o, none⟩) N c] 51)).alloc (.cells #[.slice (some ⟨b, o, none⟩) N c] 51)) n (by omega)
  have hs2 : ((w.alloc (.cells #[.slice (some ⟨b, o, none⟩) N c] 51)).alloc (.cells #[.slice (some ⟨b, o, none⟩) N c] 51)).heap.size = w.heap.size + 1 + 1 := by simp
  rw [hs2] at hsn
  have HSN := Lib.hid (own_drew hsn)
  clear hx ha hsys hg0 hrd0 hl0 hm0 hsn hs2
  go_enter Try.func126, Try.ntmps126
  go_wp2_with fail
  go_region_held3 (fun w' => w'.cell? ⟨w.heap.size, 0, none⟩ = some (.slice (some ⟨b, o, none⟩) N c) ∧ w'.cell? ⟨b, o, none⟩ = some (.slice A0 n c0)) (first | (go_keep; done) | (exact ⟨cell_ald (cell_al (Bx.start w _ _).cell _) _, cell_ald (cell_al (cell_al hc0 _) _) _⟩) | (exact ⟨q1, q2⟩))
    (first
      | (go_at_call 127; refine (flags_any (n := n) (c0 := c0) (A0 := A0) _ hpos ?_).mono ?_; (simp [*]); rintro e w' ⟨rfl, rfl⟩)
      | (go_at_call 110
         refine (iorb_any w _ HX.out HA.out ?c1 ?c2 hN HS.out hp (passed_nil n) (closed_nil xss) ?c3 HSN.out).mono ?_
         case c1 => exact below_drewN (below3 _ _ _ _) 1
         case c2 => omega
         case c3 => simp
         rintro e w' ⟨A', c', rfl, own, seen, tu⟩
         have q1 := turns_cell (b := w.heap.size) (o := 0) tu (cell_ald (cell_al (Bx.start w _ _).cell _) _) (.inl (by omega))
         have q2 := turns_cell tu (cell_ald (cell_al (cell_al hc0 _) _) _) (.inl (by omega))))
  go_wp2
  go_ret
  exact ⟨A', c', rfl, own_base own (below_drewN (below3 w _ _ _) 1).size, Turns.below (below_drewN (below3 w _ _ _) 1) tu (below_drewN (below3 w _ _ _) 1).size (by omega)⟩
end Go.Proofs.Ytjkddoiacifhpaa
