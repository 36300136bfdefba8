import Derived.Test.YtjkddoiacifhpaaFac
namespace Go.Proofs.Ytjkddoiacifhpaa
open Go.RowKit
theorem s2_al {w W : World} {p q : Nat} {v : Value} (h : Below w.heap.size w W ∧ W.cell? ⟨p, q, none⟩ = some v) (o : Obj) : Below w.heap.size w (W.alloc o) ∧ (W.alloc o).cell? ⟨p, q, none⟩ = some v := s2_go h (below1 _ _)
theorem lit1_rd (w : World) (x : Int) {g : Nat} (hg : w.heap.size = g) : Rd (w.alloc (.cells #[.int .i64 x] 2)) (some ⟨g, 0, none⟩) (ints [x]) := fun _ => ⟨g, 0, rfl, fun k u hu => by
  subst hg
  match k, hu with
  | 0, hu => simp at hu; subst hu; simp
  | k + 1, hu => simp at hu⟩
set_option maxHeartbeats 400000 in
set_option maxRecDepth 8000 in
theorem sfaces_any {b o c N n c0 i : Nat} {A0 : Option Addr} {xss : List (List Int)} (w : World) (hx : xss.length = N) (ha : RdSS w (some ⟨b, o, none⟩) xss) (hsys : okSys n xss = true) (h0 : w.cell? ⟨b, o, none⟩ = some (.slice A0 n c0)) (hi : i < N) :
    Calls Try.prog 149 #[.agg #[.slice (some ⟨b, o, none⟩) N c], .int .i64 i] w (RetN w (facL xss n i) n) := by
  have hpos : 0 < N := by omega
  have hN := (sys_parts hsys).2.2.1
  have HA := Lib.hid ha
  have HX := Lib.hid hx
  have HS := Lib.hid (okSys_erase hsys i)
  have HC0 := Lib.hid h0
  have hcb := (Bx.start w (.slice (some ⟨b, o, none⟩) N c) 51).cell
  have HE := Lib.hid (show othTo xss [(i : Int)] N = xss.eraseIdx i from hx ▸ othTo_all (by omega))
  have hN6 : N ≤ 1048576 := by omega
  have hle : (xss.eraseIdx i).length ≤ 1048576 := by have : (xss.eraseIdx i).length ≤ xss.length := List.length_eraseIdx_le _ _; omega
  have S0 : Below w.heap.size w (w.alloc (.cells #[.slice (some ⟨b, o, none⟩) N c] 51)).drew ∧ (w.alloc (.cells #[.slice (some ⟨b, o, none⟩) N c] 51)).drew.cell? ⟨w.heap.size, 0, none⟩ = some (.slice (some ⟨b, o, none⟩) N c) := ⟨below_drewN (below1 w _) 1, hcb⟩
  have S1 : Below w.heap.size w ((w.alloc (.cells #[.slice (some ⟨b, o, none⟩) N c] 51)).alloc (.cells #[.int .i64 (i : Int)] 2)).drew ∧ ((w.alloc (.cells #[.slice (some ⟨b, o, none⟩) N c] 51)).alloc (.cells #[.int .i64 (i : Int)] 2)).drew.cell? ⟨w.heap.size, 0, none⟩ = some (.slice (some ⟨b, o, none⟩) N c) := ⟨below_drewN (below2 w _ _) 1, cell_ald hcb _⟩
  have LB := Lib.hid (show Rd ((w.alloc (.cells #[.slice (some ⟨b, o, none⟩) N c] 51)).alloc (.cells #[.int .i64 (i : Int)] 2)).drew (some ⟨w.heap.size + 1, 0, none⟩) (ints [(i : Int)]) from lit1_rd (w.alloc (.cells #[.slice (some ⟨b, o, none⟩) N c] 51)) (i : Int) (by simp))
  obtain ⟨m, hm⟩ : ∃ m, (xss.eraseIdx i).length = m := ⟨_, rfl⟩
  rw [hm] at hle
  have HM := Lib.hid hm
  clear ha hx h0 hsys hm
  go_enter Try.func149, Try.ntmps149
  go_wp2_with fail
  go_region_held3 (fun w' => Below w.heap.size w w' ∧ w'.cell? ⟨w.heap.size, 0, none⟩ = some (.slice (some ⟨b, o, none⟩) N c)) (first | (with_reducible exact q) | (with_reducible exact S0) | (with_reducible exact S1) | (with_reducible exact s2_al q _))
    (first
      | (go_at_call 154
         refine (sFlags_bel _ hpos (cell_s2 HC0.out (by assumption))).mono ?_
         rintro e w1 ⟨rfl, bel⟩
         have q := s2_go (by assumption) bel)
      | (go_at_call 187
         have hW := s2_al q (.cells #[.int .i64 (i : Int)] 2)
         have h9 := oth_any (c := c) _ HX.out (HA.out.keep hW.1) hN6 (B := [(i : Int)]) (bc := 1) rfl (lit1_rd w1 (i : Int) rfl) (by decide)
         rw [HE.out, HM.out] at h9
         (with_reducible refine h9.mono ?_)
         clear h9
         rintro e w2 ⟨A2, c2, rfl, rd, bel2⟩
         have q := s2_go hW bel2)
      | (go_at_call 187
         have hW := q
         have h9 := oth_any (c := c) _ HX.out (HA.out.keep hW.1) hN6 (B := [(i : Int)]) (bc := 1) rfl ((LB.out : Rd _ _ _).keep bel) (by decide)
         rw [HE.out, HM.out] at h9
         (with_reducible refine h9.mono ?_)
         clear h9
         rintro e w2 ⟨A2, c2, rfl, rd, bel2⟩
         have q := s2_go hW bel2)
      | (go_at_call 187
         have hW := S1
         have h9 := oth_any (c := c) _ HX.out (HA.out.keep hW.1) hN6 (B := [(i : Int)]) (bc := 1) rfl LB.out (by decide)
         rw [HE.out, HM.out] at h9
         (with_reducible refine h9.mono ?_)
         clear h9
         rintro e w2 ⟨A2, c2, rfl, rd, bel2⟩
         have q := s2_go hW bel2)
      | (go_at_call 112
         (with_reducible refine (sorbs_any _ HM.out rd hle HS.out).mono ?_)
         rintro e w3 ⟨A3, c3, rfl, own, bel3⟩
         have q3 := q
         have q := s2_go q bel3)
      | (go_at_call 112
         (with_reducible refine (sorbs_any _ HM.out (rd.keep bel) hle HS.out).mono ?_)
         rintro e w3 ⟨A3, c3, rfl, own, bel3⟩
         have q3 := q
         have q := s2_go q bel3))
  all_goals
    go_wp2
    go_ret
    exact ⟨A3, c3, rfl, own_base own q3.1.size, q.1⟩
end Go.Proofs.Ytjkddoiacifhpaa
