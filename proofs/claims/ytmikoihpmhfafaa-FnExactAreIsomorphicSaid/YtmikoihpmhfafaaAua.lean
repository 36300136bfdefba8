/- impl.automorphisms and spec.l06All. -/
import Derived.Test.YtmikoihpmhfafaaAut
namespace Go.Proofs.Ytmikoihpmhfafaa
open Go.RowKit

def RetSL (w : World) (L : List (List Int)) (e : Ending) (w' : World) : Prop :=
  ∃ A m c, e = .returned (.slice A m c) ∧ L.length = m ∧ OwnSS w' w.heap.size w'.heap.size 31 A m c L ∧ Below w.heap.size w w'

set_option maxHeartbeats 6400000 in
set_option maxRecDepth 8000 in
theorem iauts_any {A : Option Addr} {c N : Nat} {xss : List (List Int)} (w : World) (hm : okMan xss = true) (hx : xss.length = N) (ha : RdSS w A xss) :
    Calls Try.prog 121 #[.agg #[.slice A N c]] w (RetSL w (autL xss)) := by
  have hman := okMan_iff.1 hm
  have hsys := hman.sys
  have hn4 := hman.f4
  have hn2 := hman.f2
  have hpos := hman.pos hx
  have hN : N ≤ 1048576 := by have := hman.r5; omega
  have hall := hman.all (q := 0) (by omega)
  obtain ⟨b, o, A0, c0, rfl, hc0⟩ := man_row0 hman ha
  have hf : autL xss = autTo xss (flN xss) (flN xss) := rfl
  rw [hf]
  obtain ⟨n, hn⟩ : ∃ n, flN xss = n := ⟨_, rfl⟩
  rw [hn] at hc0 hsys hn2 hn4 hall ⊢
  have HX := Lib.hid hx
  have HA := Lib.hid ha
  have HC0 := Lib.hid hc0
  have HS := Lib.hid hsys
  have HALL := Lib.hid hall
  have st0 := ((St.start w).addBlk #[.slice (some ⟨b, o, none⟩) N c] 26).addNilRows 2 31
  have S0 := Lib.hid st0
  have x0 := (st0.blk (i := 0) rfl).cell (i := 0) rfl
  clear st0 hx ha hc0 hsys hall hman hm hf hn
  go_enter Try.func121, Try.ntmps121
  go_wp2_with fail
  refine (flags_bel _ hpos (cell_be HC0.out S0.out.below)).mono ?_
  rintro e w1 ⟨rfl, bel⟩
  have S1 := Lib.hid (S0.out.go bel)
  clear bel x0 S0
  go_wp2
  go_loopw [3, 8] (fun u i wr => ∃ (j m c' : Nat) (A' : Option Addr) (vals : List Value), j ≤ n ∧ m ≤ j ∧ i = .int .i64 j ∧ u = .slice A' m c' ∧ St w wr [.blk w.heap.size #[.slice (some ⟨b, o, none⟩) N c] 26, .rows 2 31 A' m c' vals (autTo xss n j)]) (fun _ i _ => n - (intOf i).toNat)
  case atStart => exact ⟨0, 0, 0, _, [], Nat.zero_le _, Nat.le_refl _, rfl, rfl, by simpa [autTo] using S1.out⟩
  case round =>
    obtain ⟨j, m, c', A', vals, hj, hmj, rfl, rfl, st⟩ := hrel
    have S := Lib.hid st
    have x1 := (st.blk (i := 0) rfl).cell (i := 0) rfl
    clear st S1
    have S2 := S
    clear S
    by_cases hlt : j < n
    · go_wp2_with fail
      refine (iisoTo_any (q := j) _ HX.out (HA.out.keep S2.out.below) HX.out (HA.out.keep S2.out.below) hN HS.out HS.out (cell_be HC0.out S2.out.below) hpos hlt HALL.out).mono ?_
      rintro e w3 ⟨bel, ⟨hi, rfl⟩ | ⟨L, g, c3, hi, rfl, own⟩⟩
      · have S3 := Lib.hid (S2.out.go bel)
        have NO := Lib.hid (autTo_none hi)
        clear bel hi
        go_wp2
        go_roundw
        case rel => exact ⟨j + 1, m, c', A', vals, by omega, by omega, by go_num, rfl, by rw [NO.out]; exact S3.out⟩
        case measure => simp [intOf]; omega
      · have S3 := Lib.hid (S2.out.addOwn bel own (Nat.le_refl _))
        have YES := Lib.hid (autTo_some hi)
        have LEN := Lib.hid (isoL_len hi)
        have hlo := S3.out.lo
        clear bel hi own
        go_wp2_with (at_builtin; refine wpList_push_at _ rfl _ _ 24 31 rfl Try.underlying24 (.slice none 0 0) 24 Try.infoS rfl w.heap.size _ _ _ rfl (S3.out.rows (i := 1) rfl) _ rfl rfl (by omega) (by omega) hlo ?_)
        intro A8 c8 w8 own8 gr8 hat8
        have st8 := (S3.out.rowPush (i := 1) (j := 2) rfl rfl LEN.out (by decide) (by decide) own8 gr8 hat8).take 2
        have S8 := Lib.hid st8
        clear own8 gr8 hat8 st8
        go_wp2
        go_roundw
        case rel => exact ⟨j + 1, m + 1, c8, A8, _, by omega, by omega, by go_num, rfl, by rw [YES.out]; exact S8.out⟩
        case measure => simp [intOf]; omega
    · obtain rfl : j = n := by omega
      have hml := S2.out.sep.rows_len (i := 1) rfl
      have HML := Lib.hid hml
      clear hml
      go_wp2
      go_ret
      exact ⟨A', m, c', rfl, HML.out, (S2.out.sep.ownSS (i := 1) rfl), S2.out.below⟩

set_option maxHeartbeats 6400000 in
set_option maxRecDepth 8000 in
theorem sauts_any {A : Option Addr} {c N : Nat} {xss : List (List Int)} (w : World) (hm : okMan xss = true) (hx : xss.length = N) (ha : RdSS w A xss) :
    Calls Try.prog 122 #[.agg #[.slice A N c]] w (RetSL w (autL xss)) := by
  have hman := okMan_iff.1 hm
  have hsys := hman.sys
  have hn4 := hman.f4
  have hn2 := hman.f2
  have hpos := hman.pos hx
  have hN : N ≤ 1048576 := by have := hman.r5; omega
  have hall := hman.all (q := 0) (by omega)
  obtain ⟨b, o, A0, c0, rfl, hc0⟩ := man_row0 hman ha
  have hf : autL xss = autTo xss (flN xss) (flN xss) := rfl
  rw [hf]
  obtain ⟨n, hn⟩ : ∃ n, flN xss = n := ⟨_, rfl⟩
  rw [hn] at hc0 hsys hn2 hn4 hall ⊢
  have HX := Lib.hid hx
  have HA := Lib.hid ha
  have HC0 := Lib.hid hc0
  have HS := Lib.hid hsys
  have HALL := Lib.hid hall
  have st0 := ((St.start w).addBlk #[.slice (some ⟨b, o, none⟩) N c] 26).addMadeRows 2 31
  have S0 := Lib.hid st0
  have x0 := (st0.blk (i := 0) rfl).cell (i := 0) rfl
  clear st0 hx ha hc0 hsys hall hman hm hf hn
  go_enter Try.func122, Try.ntmps122
  clear x0
  have S1 := S0
  clear S0
  go_wp2
  go_loopw [3, 4] (fun u i wr => ∃ (j m c' : Nat) (A' : Option Addr) (vals : List Value), j ≤ n ∧ m ≤ j ∧ i = .int .i64 j ∧ u = .slice A' m c' ∧ St w wr [.blk w.heap.size #[.slice (some ⟨b, o, none⟩) N c] 26, .rows 2 31 A' m c' vals (autTo xss n j)]) (fun _ i _ => n - (intOf i).toNat)
  case atStart => exact ⟨0, 0, 0, _, [], Nat.zero_le _, Nat.le_refl _, rfl, rfl, by simpa [autTo] using S1.out⟩
  case round =>
    obtain ⟨j, m, c', A', vals, hj, hmj, rfl, rfl, st⟩ := hrel
    have S := Lib.hid st
    have x1 := (st.blk (i := 0) rfl).cell (i := 0) rfl
    clear st S1
    go_wp2_with fail
    refine (sFlags_bel _ hpos (cell_be HC0.out S.out.below)).mono ?_
    rintro e w2 ⟨rfl, bel⟩
    have S2 := Lib.hid (S.out.go bel)
    have x2 := (S2.out.blk (i := 0) rfl).cell (i := 0) rfl
    clear bel x1
    by_cases hlt : j < n
    · go_wp2_with fail
      refine (siso_any (q := j) _ HX.out (HA.out.keep S2.out.below) HX.out (HA.out.keep S2.out.below) hN HS.out HS.out (cell_be HC0.out S2.out.below) hpos hlt HALL.out).mono ?_
      rintro e w3 ⟨bel, ⟨hi, rfl⟩ | ⟨L, g, c3, hi, rfl, own⟩⟩
      · have S3 := Lib.hid (S2.out.go bel)
        have NO := Lib.hid (autTo_none hi)
        clear bel hi
        go_wp2
        go_roundw
        case rel => exact ⟨j + 1, m, c', A', vals, by omega, by omega, by go_num, rfl, by rw [NO.out]; exact S3.out⟩
        case measure => simp [intOf]; omega
      · have S3 := Lib.hid (S2.out.addOwn bel own (Nat.le_refl _))
        have YES := Lib.hid (autTo_some hi)
        have LEN := Lib.hid (isoL_len hi)
        have hlo := S3.out.lo
        clear bel hi own
        go_wp2_with (at_builtin; refine wpList_push_at _ rfl _ _ 24 31 rfl Try.underlying24 (.slice none 0 0) 24 Try.infoS rfl w.heap.size _ _ _ rfl (S3.out.rows (i := 1) rfl) _ rfl rfl (by omega) (by omega) hlo ?_)
        intro A8 c8 w8 own8 gr8 hat8
        have st8 := (S3.out.rowPush (i := 1) (j := 2) rfl rfl LEN.out (by decide) (by decide) own8 gr8 hat8).take 2
        have S8 := Lib.hid st8
        clear own8 gr8 hat8 st8
        go_wp2
        go_roundw
        case rel => exact ⟨j + 1, m + 1, c8, A8, _, by omega, by omega, by go_num, rfl, by rw [YES.out]; exact S8.out⟩
        case measure => simp [intOf]; omega
    · obtain rfl : j = n := by omega
      have hml := S2.out.sep.rows_len (i := 1) rfl
      have HML := Lib.hid hml
      clear hml
      go_wp2
      go_ret
      exact ⟨A', m, c', rfl, HML.out, (S2.out.sep.ownSS (i := 1) rfl), S2.out.below⟩

end Go.Proofs.Ytmikoihpmhfafaa
