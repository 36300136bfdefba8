import Derived.Test.YtbjfeogkdfmjpaaWkM
namespace Go.Proofs.Ytbjfeogkdfmjpaa
open Go.RowKit

theorem Try.infoP : (Try.prog.info? 68).map (fun i => (i.zero, i.size, i.bytes)) = some (some (.slice none 0 0), 1, 24) := by kernel_rfl

set_option maxHeartbeats 1600000 in
theorem icyc_any {A : Option Addr} {c n : Nat} {xs : List Int} (w : World) (hx : xs.length = n) (ha : Rd w A (ints xs)) (hn : n ≤ 1048576) (hp : okP xs = true) :
    Calls Try.prog 106 #[.slice A n c] w fun e w' => ∃ A' c' m, e = .returned (.slice A' m c') ∧ OwnSS w' w.heap.size w'.heap.size 68 A' m c' (cycL xs) ∧ Below w.heap.size w w' := by
  have HX := Lib.hid hx
  have HA := Lib.hid ha
  have HP := Lib.hid hp
  clear hx ha hp
  have hmk := run_make_row' (P := Try.prog) 54 4 (.bool false) 1 Try.underlying54 Try.infoB rfl .i64 .i64 n (by omega) (by omega)
  have hst := cout_start0 w n xs (by omega)
  have ST := Lib.hid hst
  clear hst
  go_enter Try.func106, Try.ntmps106
  go_wp2
  clear hmk
  go_loopw [3, 13] (fun v q wr => ∃ (k m c' : Nat) (A' : Option Addr), k ≤ n ∧ q = .int .i64 k ∧ v = .slice A' m c' ∧ COut w wr 68 w.heap.size n k xs A' m c') (fun _ q _ => n - (intOf q).toNat)
  case atStart => exact ⟨0, 0, 0, none, Nat.zero_le _, rfl, rfl, ST.out⟩
  case round =>
    obtain ⟨k, m, c', A', hk, rfl, rfl, co⟩ := hrel
    have CO := Lib.hid co
    have hml := (cout_len co).2
    clear co ST
    by_cases hlt : k < n
    · have hcs := own_cell CO.out.seen (seenL_at hlt)
      have hfr := CO.out.seen.frozenAt k
      by_cases hin : (k : Int) ∈ (cycTo xs n k).flatten
      · rw [decide_eq_true hin] at hcs
        have SK := Lib.hid (cout_skip CO.out hin)
        clear hin
        go_wp2
        refine wp_loop_rounds 1 ?_
        rw [rounds_succ]
        go_wp2
        go_roundw
        case rel => exact ⟨k + 1, m, c', A', by omega, by go_num, rfl, SK.out⟩
        case measure => simp [intOf]; omega
      · rw [decide_eq_false hin] at hcs
        have NI := Lib.hid hin
        have CI := Lib.hid (cin_start CO.out HX.out HP.out hlt (.inl ⟨rfl, rfl, rfl⟩))
        clear hin
        go_wp2
        obtain ⟨wo, rfl⟩ : ∃ wo : World, wo = wr := ⟨_, rfl⟩
        go_loopg [6, 7] (n - ((cycTo xs n k).flatten ++ []).length) (fun gk v q wi => ∃ (cur : List Int) (p mc cc : Nat) (Ac : Option Addr), v = .slice Ac mc cc ∧ q = .int .i64 p ∧ gk = n - ((cycTo xs n k).flatten ++ cur).length ∧ CIn w wi 68 w.heap.size n k wo.heap.size xs A' m c' cur p Ac mc cc)
        case atStart => exact ⟨[], k, 0, 0, none, rfl, rfl, rfl, CI.out⟩
        case round =>
          obtain ⟨cur, p, mc, cc, Ac, rfl, rfl, hg, ci⟩ := hrel
          have C := Lib.hid ci
          have HG := Lib.hid hg
          have hpn := ci.pn
          have hmc := (cin_cur ci).2
          have hcp := own_cell ci.seen (seenL_at hpn)
          have hfp := ci.seen.frozenAt p
          clear ci hg hcs hfr CI CO
          obtain ⟨b, o, x, rfl, hgx, hcx0⟩ := HA.out.int (k := p) (by rw [HX.out]; exact hpn)
          have hcx := (C.out.bel.cell (p := ⟨b, o + p, none⟩) (World.block_lt_of_cell? w _ hcx0)).trans hcx0
          have HC0 := Lib.hid hcx0
          clear hcx0
          obtain ⟨q, rfl, hq⟩ := okP_at HP.out HX.out hgx
          have HGX := Lib.hid hgx
          clear hgx
          by_cases hin2 : (p : Int) ∈ (cycTo xs n k).flatten ++ cur
          · rw [decide_eq_true hin2] at hcp
            have IN := Lib.hid hin2
            have hpos := cin_pos C.out HX.out HP.out hlt NI.out hin2
            clear hin2
            obtain ⟨vals, hrows⟩ := cin_rows C.out
            have ROWS := Lib.hid hrows
            clear hrows
            have hb0 := C.out.bel.size
            go_wp2_with (at_builtin; refine wpList_push2 _ rfl _ _ 98 68 rfl Try.underlying98 (.slice none 0 0) 24 Try.infoP rfl w.heap.size _ _ _ rfl ROWS.out _ rfl rfl (by omega) (by omega) (by omega) ?_)
            intro A2 c2 w4 own4 gr4
            have CO4 := Lib.hid (cin_done C.out (by decide) (by decide) NI.out IN.out (fun vals' h' => by rw [row_unique h' ROWS.out]; exact own4) gr4)
            clear own4 gr4
            go_wp2
            go_roundw
            case rel => exact ⟨k + 1, m + 1, c2, A2, by omega, by go_num, rfl, CO4.out⟩
            case measure => simp [intOf]; omega
          · rw [decide_eq_false hin2] at hcp
            have NIN := Lib.hid hin2
            have hlen := cin_len C.out hin2
            have hmc2 := (cin_cur C.out).1
            have HML := Lib.hid (show ((cycTo xs n k).flatten ++ cur).length < n from hlen)
            have MK := Lib.hid (cin_mark C.out)
            have hb0 := C.out.sz
            have hmc3 : mc ≤ 1048576 := by omega
            clear hin2 hlen hmc2
            go_wp2_with (at_builtin; refine wpList_push _ rfl _ _ 68 2 rfl Try.underlying68 (.int .i64 0) 8 Try.info2 rfl wo.heap.size _ _ _ rfl MK.out _ rfl ?hx (by omega) (by omega) ?hb ?_)
            case hx => simp [Act.eval]
            case hb => simp; omega
            intro A3 c3 w3 own3 bel3 _
            have C3 := Lib.hid (cin_step C.out (by decide) NIN.out HGX.out hq own3 bel3)
            have hcx3 : w3.cell? ⟨b, o + p, none⟩ = some (.int .i64 q) := (C3.out.bel.cell (p := ⟨b, o + p, none⟩) (World.block_lt_of_cell? w _ HC0.out)).trans HC0.out
            clear own3 bel3 hcp hfp hcx
            go_wp2
            go_roundg (n - ((cycTo xs n k).flatten ++ (cur ++ [(p : Int)])).length)
            case measure => have := HML.out; rw [HG.out]; simp at this ⊢; omega
            case rel => exact ⟨cur ++ [(p : Int)], q, mc + 1, c3, A3, rfl, rfl, rfl, C3.out⟩
    · go_wp2
      go_ret
      obtain rfl : k = n := by omega
      have e : cycTo xs k k = cycL xs := by unfold cycL; rw [HX.out]
      have h := CO.out.rows
      rw [e] at h
      exact ⟨_, _, _, rfl, h, CO.out.bel⟩
end Go.Proofs.Ytbjfeogkdfmjpaa
