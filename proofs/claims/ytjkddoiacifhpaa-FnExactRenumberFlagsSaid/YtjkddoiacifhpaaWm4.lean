import Derived.Test.YtjkddoiacifhpaaWm3
import Derived.Test.YtjkddoiacifhpaaGq
namespace Go.Proofs.Ytjkddoiacifhpaa
open Go.RowKit

theorem beq_nat (m n : Nat) : ((m : Int) == (n : Int)) = decide (m = n) := by
  by_cases h : m = n
  · subst h; simp
  · rw [decide_eq_false h, beq_eq_false_iff_ne]; omega
theorem okFree_iff {xs : List Int} : okFree xs = true ↔ okP xs = true ∧ freeP xs = true := by unfold okFree; simp
theorem sizes_sys {xss : List (List Int)} (h : SizesOk xss) : okSys (flN xss) xss = true :=
  decide_eq_true ⟨by omega, by have := h.f4; omega, by have := h.r5; omega, fun xs hx => ⟨by rw [(h.row xs hx).1], (okFree_iff.1 (h.row xs hx).2).1⟩⟩
theorem man_iff {xss : List (List Int)} : IsMan xss ↔ SizesOk xss ∧ SqAll xss (flN xss) ∧ (orbL xss (flN xss) 0).length = flN xss :=
  ⟨fun h => ⟨⟨h.r1, h.r5, h.f2, h.f4, fun xs hx => ⟨(h.row xs hx).1, okFree_iff.2 (h.row xs hx).2⟩⟩, h.sq, h.orb⟩,
   fun ⟨h1, h2, h3⟩ => ⟨h1.r1, h1.r5, h1.f2, h1.f4, fun xs hx => ⟨(h1.row xs hx).1, okFree_iff.1 (h1.row xs hx).2⟩, h2, h3⟩⟩
theorem s2_go {w W W' : World} {p q : Nat} {v : Value} (h : Below w.heap.size w W ∧ W.cell? ⟨p, q, none⟩ = some v) (hb : Below W.heap.size W W') :
    Below w.heap.size w W' ∧ W'.cell? ⟨p, q, none⟩ = some v :=
  ⟨h.1.trans (hb.mono h.1.size), cell_be h.2 hb⟩
theorem rd_s2 {w W : World} {A : Option Addr} {xss : List (List Int)} {p q : Nat} {v : Value} (ha : RdSS w A xss) (h : Below w.heap.size w W ∧ W.cell? ⟨p, q, none⟩ = some v) : RdSS W A xss := ha.keep h.1
theorem cell_s2 {w W : World} {p q b o : Nat} {v u : Value} (hc : w.cell? ⟨b, o, none⟩ = some u) (h : Below w.heap.size w W ∧ W.cell? ⟨p, q, none⟩ = some v) : W.cell? ⟨b, o, none⟩ = some u := cell_be hc h.1
theorem rd_s3 {w W : World} {A : Option Addr} {xss : List (List Int)} {b o p q : Nat} {u v : Value} (ha : RdSS w A xss) (h : Below w.heap.size w W ∧ W.cell? ⟨p, q, none⟩ = some v ∧ W.cell? ⟨b, o, none⟩ = some u) : RdSS W A xss := ha.keep h.1
theorem s3_go {w W W' : World} {b o p q : Nat} {u v : Value} (h : Below w.heap.size w W ∧ W.cell? ⟨p, q, none⟩ = some v ∧ W.cell? ⟨b, o, none⟩ = some u) (hb : Below W.heap.size W W') :
    Below w.heap.size w W' ∧ W'.cell? ⟨p, q, none⟩ = some v ∧ W'.cell? ⟨b, o, none⟩ = some u :=
  ⟨h.1.trans (hb.mono h.1.size), cell_be h.2.1 hb, cell_be h.2.2 hb⟩

theorem flags_bel {b o c N n c0 : Nat} {A0 : Option Addr} (w : World) (hN : 0 < N) (h0 : w.cell? ⟨b, o, none⟩ = some (.slice A0 n c0)) :
    Calls Try.prog 127 #[.agg #[.slice (some ⟨b, o, none⟩) N c]] w fun e w' => e = .returned (.int .i64 n) ∧ Below w.heap.size w w' :=
  (flags_any w hN h0).mono fun _ _ ⟨he, hb⟩ => ⟨he, hb ▸ below1 _ _⟩
theorem sizes_val {A : Option Addr} {c N : Nat} {xss : List (List Int)} {r : Bool} (w : World) (hx : xss.length = N) (ha : RdSS w A xss) (hN : N ≤ 1048576) (hr : ∀ xs ∈ xss, (xs.length : Int) ≤ 1048576) (hs : sizesB xss = r) :
    Calls Try.prog 124 #[.agg #[.slice A N c]] w fun e w' => e = .returned (.bool r) ∧ Below w.heap.size w w' :=
  (sizes_any w hx ha hN hr).mono fun _ _ ⟨he, hb⟩ => ⟨by rw [he, hs], hb⟩
theorem squares_val {A : Option Addr} {c N n : Nat} {xss : List (List Int)} {r : Bool} (w : World) (hx : xss.length = N) (ha : RdSS w A xss) (hN : N ≤ 1048576) (hsys : okSys n xss = true) (hs : sqAllB xss n = r) :
    Calls Try.prog 125 #[.agg #[.slice A N c]] w fun e w' => e = .returned (.bool r) ∧ Below w.heap.size w w' :=
  (squares_any w hx ha hN hsys).mono fun _ _ ⟨he, hb⟩ => ⟨by rw [he, hs], hb⟩

set_option maxHeartbeats 3200000 in
theorem iMan_any {A : Option Addr} {c N : Nat} {xss : List (List Int)} (w : World) (hx : xss.length = N) (ha : RdSS w A xss) (hN : N ≤ 1048576) (hr : ∀ xs ∈ xss, (xs.length : Int) ≤ 1048576) :
    Calls Try.prog 51 #[.agg #[.slice A N c]] w fun e w' => e = .returned (.bool (okMan xss)) ∧ Below w.heap.size w w' := by
  have HX := Lib.hid hx
  have HA1 := Lib.hid (ha.al (.cells #[.slice A N c] 51))
  have HR := Lib.hid hr
  have hbx := BelowOf.cell (Bx.start w (.slice A N c) 51).cell
  cases hs : sizesB xss
  · have ho := Lib.hid (okMan_false fun h => by have := sizesB_true (man_iff.1 h).1; rw [hs] at this; cases this)
    have HS := Lib.hid hs
    clear hx ha hr hs
    go_enter Try.func51, Try.ntmps51
    go_wp2_with fail
    refine wp_region_quiet_below (by kernel_rfl) (by kernel_rfl) ?_
    repeat (go_big_quiet_step ((go_at_call 124; exact Calls.below_of (sizes_val _ HX.out (HA1.out.keep (BelowOf.h _)) hN HR.out HS.out))))
    refine wpQuiet_nil ?_
    intro _ hw'
    obtain ⟨⟨wq, hbq⟩, hw''⟩ := hw'
    subst hw''
    go_wp2
    go_ret
    exact ⟨ret_bool ho.out.symm, (below1 w _).trans (hbq.mono (by simp))⟩
  · have hsz := sizesB_iff.1 hs
    have hsys := sizes_sys hsz
    cases hq : sqAllB xss (flN xss)
    · have ho := Lib.hid (okMan_false fun h => by have := sqAllB_true (man_iff.1 h).2.1; rw [hq] at this; cases this)
      have HS := Lib.hid hs
      have HQ := Lib.hid hq
      have HSY := Lib.hid hsys
      clear hx ha hr hs hq hsys hsz
      go_enter Try.func51, Try.ntmps51
      go_wp2_with fail
      refine wp_region_quiet_below (by kernel_rfl) (by kernel_rfl) ?_
      repeat (go_big_quiet_step ((first | (go_at_call 124; exact Calls.below_of (sizes_val _ HX.out (HA1.out.keep (BelowOf.h _)) hN HR.out HS.out)) | (go_at_call 125; exact Calls.below_of (squares_val _ HX.out (HA1.out.keep (BelowOf.h _)) hN HSY.out HQ.out)))))
      refine wpQuiet_nil ?_
      intro _ hw'
      obtain ⟨⟨wq, hbq⟩, hw''⟩ := hw'
      subst hw''
      go_wp2
      go_ret
      exact ⟨ret_bool ho.out.symm, (below1 w _).trans (hbq.mono (by simp))⟩
    · have HS := Lib.hid hs
      have HQ := Lib.hid hq
      have HSY := Lib.hid hsys
      have hpos : 0 < N := by have := hsz.r1; omega
      obtain ⟨b, o, A0, c0, xs0, rfl, hg0, hc0, hrd0, hm0⟩ := ha.row (k := 0) (by omega)
      have hfl := fl_of hg0
      obtain ⟨n, hn⟩ : ∃ n, flN xss = n := ⟨_, rfl⟩
      rw [hn] at hfl
      rw [← hfl, Nat.add_zero] at hc0
      have hz : 0 < n := by have := hsz.f2; omega
      have HC0 := Lib.hid hc0
      have HN := Lib.hid hn
      have HA := Lib.hid ha
      obtain ⟨m, hm⟩ : ∃ m, (orbL xss n 0).length = m := ⟨_, rfl⟩
      have ho := Lib.hid (show okMan xss = decide (m = n) from by
        by_cases h : m = n
        · rw [decide_eq_true h]; exact okMan_true (man_iff.2 ⟨hsz, sqAllB_iff.1 hq, by rw [hn, hm, h]⟩)
        · rw [decide_eq_false h]; exact okMan_false fun h2 => h (by have := (man_iff.1 h2).2.2; rw [hn, hm] at this; exact this))
      rw [hn] at HQ HSY
      have HM := Lib.hid hm
      clear hx ha hr hs hq hsys hsz hg0 hrd0 hm0 hc0 hn hm hfl hbx
      go_enter Try.func51, Try.ntmps51
      go_wp2_with fail
      go_region_held3 (fun w' => Below w.heap.size w w' ∧ w'.cell? ⟨w.heap.size, 0, none⟩ = some (.slice (some ⟨b, o, none⟩) N c)) (first | (exact ⟨below_drewN (below1 w _) 1, (Bx.start w _ _).cell⟩) | (exact q))
        (first
          | (go_at_call 124
             refine (sizes_val _ HX.out (rd_s2 HA.out (by assumption)) hN HR.out HS.out).mono ?_
             rintro e w' ⟨rfl, bel⟩
             have q := s2_go (by assumption) bel)
          | (go_at_call 125
             refine (squares_val _ HX.out (rd_s2 HA.out (by assumption)) hN HSY.out HQ.out).mono ?_
             rintro e w' ⟨rfl, bel⟩
             have q := s2_go (by assumption) bel)
          | (go_at_call 126
             refine (flagsFrom_any _ HX.out (rd_s2 HA.out (by assumption)) hN HSY.out hpos hz).mono ?_
             rintro e w' ⟨A', c', rfl, own, bel⟩
             have q := s2_go (by assumption) bel)
          | (go_at_call 127
             refine (flags_bel _ hpos (cell_s2 HC0.out (by assumption))).mono ?_
             rintro e w' ⟨rfl, bel⟩
             have q := s2_go (by assumption) bel))
      all_goals
        go_wp2
        go_ret
      all_goals
        refine ⟨ret_bool ?_, q.1⟩
        rw [ho.out, HM.out]
        exact beq_nat m n
end Go.Proofs.Ytjkddoiacifhpaa
